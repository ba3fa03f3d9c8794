package sagas_test

import (
	"testing"

	"sagas/api"
	"sagas/plain"
)

// named is the room that P9 names for a saga of n steps.
func named(n int) int { return 2*n + 2 }

// least is what P9 names beside the sagas.
const least = 4

func TestP9JustEnoughRoom(t *testing.T) {
	for n := 1; n <= api.MaxSteps; n++ {
		for k := 1; least+k*named(n) <= api.MaxBlocks; k++ {
			d := formatted(t, max(api.MinBlocks, least+k*named(n)))
			x := opened(t, d)
			for id := 1; id <= k; id++ {
				submit(t, x, id, steps(n, "room"))
			}
		}
	}
}

// One block less than P9 names: the last saga is taken, or it is not, and then nothing is changed.
func TestP9OneBlockLess(t *testing.T) {
	for n := 1; n <= api.MaxSteps; n++ {
		for k := 1; k < 20; k++ {
			size := least + k*named(n) - 1
			if size < api.MinBlocks || size > api.MaxBlocks {
				continue
			}
			d := formatted(t, size)
			x := opened(t, d)
			for id := 1; id < k; id++ {
				submit(t, x, id, steps(n, "room"))
			}
			was := d.Bytes()
			err := x.Submit(k, steps(n, "room"))
			if err == nil {
				holds(t, "P9: one block less", opened(t, d), k, steps(n, "room"))
				continue
			}
			is(t, "P9: one block less", err, api.ErrFull)
			if d.Bytes() != was || d.Pending() != 0 || len(plain.All(x, api.MaxId)) != k-1 {
				t.Error("P1: ErrFull, but something is changed")
			}
		}
	}
}

// P9: with just the room that it names, all sagas come to their ends, done and taken back, whatever fails on the way.
func TestP9AllSagasComeToTheirEnds(t *testing.T) {
	for n := 1; n <= api.MaxSteps; n++ {
		for refused := range n + 1 {
			for k := 1; least+k*named(n) <= api.MaxBlocks; k += 1 + k/2 {
				s := empty(t, max(api.MinBlocks, least+k*named(n)), refuses(refused))
				for id := 1; id <= k; id++ {
					s.submit(t, id, steps(n, "room"))
				}
				s.ends(t, "P9: all come to their ends")
			}
		}
	}
}

// Sagas of all sizes, each one as soon as there is room for it by P9, while the others stand anywhere, with other engines on the way.
func TestP9SagasOfAllSizesComeToTheirEnds(t *testing.T) {
	for seed := range uint64(60) {
		next := pattern(seed)
		size := api.MinBlocks + next(api.MaxBlocks-api.MinBlocks+1)
		s := empty(t, size, anyhow(next))
		used := least
		for id := api.MaxId; id > 0; id-- {
			n := 1 + next(api.MaxSteps)
			if used+named(n) > size {
				break
			}
			used += named(n)
			s.submit(t, id, steps(n, "mixed"))
			for range next(3) {
				s.tick(t, "P9: sagas of all sizes")
			}
			if next(4) == 0 {
				s = s.anew(t)
			}
		}
		s.p.rule = refuses(1 + next(api.MaxSteps)).rule
		s.ends(t, "P9: sagas of all sizes")
	}
}

// A device that is full to its last block, by P5 and not only by P9: all its sagas come to their ends, by the longest ways.
func TestP9AFullDeviceComesToItsEnds(t *testing.T) {
	for _, size := range []int{8, 9, 20, 31, 100, 400} {
		last := &partner{}
		d := filled(t, size)
		x := last.opens(t, d, 1)
		o := newCourse(1, map[int]place{})
		for _, s := range plain.All(x, api.MaxId) {
			o.places[s.Id] = start(steps(s.Steps, "full"))
		}
		last.rule = func(c api.Call) int {
			if !c.Back && c.Step == len(o.places[c.Saga].steps) {
				return api.Never
			}
			return api.Done
		}
		o.runs(t, "P9: a full device", x, last, 2*api.MaxSteps)
		if !o.over() {
			t.Errorf("P9: a full device of %d blocks: %v", size, o.told())
		}
		tells(t, "P9: another engine on a full device", opened(t, d.After(nil)), newCourse(1, o.places).told()...)
		is(t, "P5: a full device stays full", opened(t, d).Submit(1, steps(6, "more")), api.ErrFull)
	}
}

// A device that is full stays full, and open to nothing but what is there.
func TestP5AFullDevice(t *testing.T) {
	for _, size := range []int{8, 9, 20, 400} {
		d := filled(t, size)
		was := d.Bytes()
		x := opened(t, d)
		all := plain.All(x, api.MaxId)
		for n := 1; n <= api.MaxSteps; n++ {
			is(t, "P5: Submit to a full device", x.Submit(1, steps(n, "more")), api.ErrFull)
		}
		for _, s := range all {
			is(t, "P5: the same again on a full device", x.Submit(s.Id, steps(s.Steps, "full")), api.OK)
			is(t, "P5: another one on a full device", x.Submit(s.Id, steps(s.Steps, "more")), api.ErrUsed)
		}
		tells(t, "P5: a full device", x, all...)
		if d.Bytes() != was || d.Pending() != 0 {
			t.Error("P5: a full device is changed")
		}
	}
}

// Where a great saga has no room, a small one may have.
func TestP9ASmallSagaBehindErrFull(t *testing.T) {
	x := opened(t, formatted(t, 8))
	is(t, "P5: six steps on eight blocks", x.Submit(1, steps(6, "great")), api.ErrFull)
	submit(t, x, 1, steps(1, "small"))
	tells(t, "P9", x, begun(1, 1))
}

// Sagas that were cut off, and are not there, take no room, however many they are.
func TestP9WhatIsCutOffTakesNoRoom(t *testing.T) {
	d := formatted(t, least+2*named(6))
	submit(t, opened(t, d), 1, steps(6, "first"))
	for i := range 100 {
		x := opened(t, d)
		d.Off(i % 4)
		is(t, "P8: cut off", x.Submit(2+i, steps(6, "cut")), api.ErrIO)
		d = d.After([]int{i % 15, i % 7})
		tells(t, "P8: behind what was cut off", opened(t, d), begun(1, 6))
	}
	x := opened(t, d)
	submit(t, x, 2, steps(6, "last"))
	tells(t, "P9", x, begun(1, 6), begun(2, 6))
	holds(t, "P9: another engine", opened(t, d), 2, steps(6, "last"))
}

// Neither do those that failed without a failure of power.
func TestP9WhatFailsTakesNoRoom(t *testing.T) {
	d := formatted(t, least+2*named(6))
	submit(t, opened(t, d), 1, steps(6, "first"))
	for i := range 100 {
		x := opened(t, d)
		d.Bad(i%3, 1) // not at the last Flush: then the saga would be there
		is(t, "P8: the device tells an error", x.Submit(2+i, steps(6, "bad")), api.ErrIO)
		tells(t, "P8: behind it", opened(t, d), begun(1, 6))
	}
	submit(t, opened(t, d), 2, steps(6, "last"))
	holds(t, "P9: another engine", opened(t, d), 2, steps(6, "last"))
}
