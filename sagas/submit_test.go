package sagas_test

import (
	"math"
	"slices"
	"strings"
	"testing"

	"sagas/api"
	"sagas/sagas"
)

// quiet is a device that may not be called any more, whatever it is called for.
func quiet(t *testing.T, d *api.Disk) (*odd, func()) {
	o := &odd{Disk: d}
	return o, func() {
		o.read = func(i int) ([]byte, error) { t.Errorf("block %d is read", i); return nil, api.ErrIO }
		o.write = func(i int, b []byte) error { t.Errorf("block %d is written", i); return api.ErrIO }
		o.flush = func() error { t.Error("the device is flushed"); return api.ErrIO }
	}
}

func TestP5WhatIsASaga(t *testing.T) {
	ids := map[int]api.Errno{math.MinInt: api.ErrSaga, -1: api.ErrSaga, 0: api.ErrSaga, 1: api.OK, 2: api.OK, 255: api.OK, 256: api.OK, 999: api.OK, 1000: api.OK, 1001: api.ErrSaga, 1<<16 + 1: api.ErrSaga, 1<<32 + 1: api.ErrSaga, math.MaxInt: api.ErrSaga}
	for id, want := range ids {
		x := opened(t, formatted(t, 40))
		is(t, "P5: Submit", x.Submit(id, steps(2, "")), want)
	}
	for n := range 9 {
		want := api.OK
		if n < 1 || n > 6 {
			want = api.ErrSaga
		}
		is(t, "P5: Submit", opened(t, formatted(t, 40)).Submit(1, steps(n, "")), want)
	}
	x := opened(t, formatted(t, 40))
	for _, l := range [][]api.Step{nil, {}, make([]api.Step, 257), make([]api.Step, 1<<16+1)} {
		is(t, "P5: Submit", x.Submit(1, l), api.ErrSaga)
	}
	tells(t, "P5: behind what is no saga", x)
}

func TestP5DataOfASaga(t *testing.T) {
	for size, want := range map[int]api.Errno{0: api.OK, 1: api.OK, 7: api.OK, 8: api.OK, 9: api.ErrSaga, 16: api.ErrSaga, 17: api.ErrSaga, 256: api.ErrSaga, 264: api.ErrSaga} {
		data := strings.Repeat("x", size)
		for n := 1; n <= api.MaxSteps; n++ {
			for at := range n {
				do, undo := steps(n, ""), steps(n, "")
				do[at].Do, undo[at].Undo = data, data
				for _, l := range [][]api.Step{do, undo} {
					d := formatted(t, 40)
					writes := d.Writes()
					x := opened(t, d)
					is(t, "P5: Submit", x.Submit(1, l), want)
					if want == api.OK {
						holds(t, "P5: behind Submit", x, 1, l)
						holds(t, "P5: another engine", opened(t, d), 1, l)
					} else if d.Writes() != writes {
						t.Errorf("P1: Submit of what is no saga writes: %v", l)
					}
				}
			}
		}
	}
}

// holds: has the engine just this saga? Nothing may be written for the answer.
func holds(t *testing.T, what string, x *sagas.Engine, id int, l []api.Step) {
	t.Helper()
	got, err := x.Status(id)
	is(t, what+": Status", err, api.OK)
	if got.Id != id || got.Steps != len(l) {
		t.Errorf("%s: %v, want saga %d, %d steps", what, got, id, len(l))
	}
	is(t, what+": the same saga again", x.Submit(id, l), api.OK)
	for at := range l {
		other := slices.Clone(l)
		other[at] = api.Step{Do: l[at].Do + "x", Undo: l[at].Undo}
		if len(other[at].Do) > api.MaxData {
			other[at].Do = "other"
		}
		is(t, what+": another saga", x.Submit(id, other), api.ErrUsed)
	}
}

func TestP5ASagaIsThereAndSure(t *testing.T) {
	d := formatted(t, 60)
	x := opened(t, d)
	var want []api.Status
	for n := 1; n <= api.MaxSteps; n++ {
		submit(t, x, 10*n, steps(n, "a"))
		if d.Pending() != 0 {
			t.Errorf("P5: behind Submit %d writes are not sure", d.Pending())
		}
		want = append(want, begun(10*n, n))
		tells(t, "P5: behind Submit", x, want...)
		tells(t, "P5: another engine", opened(t, d), want...)
		tells(t, "P5: behind a failure of power", opened(t, d.After(nil)), want...)
	}
}

func TestP5TheSameSagaAgain(t *testing.T) {
	for name, l := range map[string][]api.Step{"one empty step": {{}}, "two steps": {{Do: "a", Undo: "A"}, {Do: "b", Undo: "B"}}, "six steps": steps(6, "x"), "noughts": {{Do: "\x00\x00", Undo: "\x00"}}} {
		d, rest := quiet(t, formatted(t, 40))
		x := opened(t, d)
		submit(t, x, 1, l)
		y := opened(t, d)
		rest()
		for range 3 {
			is(t, "P5: again: "+name, x.Submit(1, slices.Clone(l)), api.OK)
			is(t, "P5: again on another engine: "+name, y.Submit(1, slices.Clone(l)), api.OK)
		}
		tells(t, "P5: again: "+name, x, begun(1, len(l)))
		tells(t, "P5: again on another engine: "+name, y, begun(1, len(l)))
	}
}

func TestP5TheSameIdWithOtherSteps(t *testing.T) {
	pairs := map[string][2][]api.Step{
		"the document's":     {{{Do: "a", Undo: "A"}, {Do: "b", Undo: "B"}}, {{Do: "a", Undo: "A"}}},
		"one more":           {{{Do: "a", Undo: "A"}}, {{Do: "a", Undo: "A"}, {}}},
		"six and five":       {steps(6, "x"), steps(5, "x")},
		"another Do":         {{{Do: "a", Undo: "A"}}, {{Do: "b", Undo: "A"}}},
		"another Undo":       {{{Do: "a", Undo: "A"}}, {{Do: "a", Undo: "B"}}},
		"another last Undo":  {steps(6, "x"), append(steps(5, "x"), api.Step{Do: steps(6, "x")[5].Do})},
		"Do and Undo change": {{{Do: "a", Undo: "A"}}, {{Do: "A", Undo: "a"}}},
		"steps change":       {{{Do: "a"}, {Do: "b"}}, {{Do: "b"}, {Do: "a"}}},
		"another split":      {{{Do: "ab", Undo: "c"}}, {{Do: "a", Undo: "bc"}}},
		"another split of 2": {{{Undo: "a"}, {}}, {{}, {Do: "a"}}},
		"a nought":           {{{}}, {{Do: "\x00"}}},
		"a nought behind":    {{{Do: "a"}}, {{Do: "a\x00"}}},
		"great and small":    {{{Do: "a"}}, {{Do: "A"}}},
		"eight bytes":        {{{Do: "12345678"}}, {{Do: "12345679"}}},
	}
	for name, c := range pairs {
		for turn := range 2 {
			d, rest := quiet(t, formatted(t, 40))
			x := opened(t, d)
			submit(t, x, 1, c[turn])
			y := opened(t, d)
			rest()
			is(t, "P5: "+name, x.Submit(1, c[1-turn]), api.ErrUsed)
			is(t, "P5: on another engine: "+name, y.Submit(1, c[1-turn]), api.ErrUsed)
			is(t, "P5: the one that is there: "+name, x.Submit(1, c[turn]), api.OK)
			is(t, "P5: the one that is there, on another engine: "+name, y.Submit(1, c[turn]), api.OK)
			tells(t, "P5: "+name, x, begun(1, len(c[turn])))
		}
	}
}

// A saga with another id may have the same steps.
func TestP5OtherIdsWithTheSameSteps(t *testing.T) {
	d := formatted(t, 40)
	x := opened(t, d)
	for _, id := range []int{3, 1, 2, 258, 259} { // 2 and 3 in their lower bytes too
		submit(t, x, id, steps(2, "same"))
	}
	want := []api.Status{begun(1, 2), begun(2, 2), begun(3, 2), begun(258, 2), begun(259, 2)}
	tells(t, "P5: five alike", x, want...)
	tells(t, "P5: five alike on another engine", opened(t, d), want...)
}

func TestP1SubmitAnswersTheErrorNamedFirst(t *testing.T) {
	d := filled(t, 20)
	x := opened(t, d)
	d.Off(0)
	same, other := steps(6, "full"), steps(6, "other")
	is(t, "P1: no saga, used, full, errors of the device", x.Submit(1000, steps(7, "")), api.ErrSaga)
	is(t, "P1: used, full, errors of the device", x.Submit(1000, other), api.ErrUsed)
	is(t, "P1: the same, full, errors of the device", x.Submit(1000, same), api.OK)
	is(t, "P1: full, errors of the device", x.Submit(1, other), api.ErrFull)
	if d.Told() != 0 {
		t.Errorf("P5: the device is asked for something %d times", d.Told())
	}

	d = formatted(t, 40)
	x = opened(t, d)
	submit(t, x, 5, same)
	d.Off(0)
	is(t, "P1: errors of the device", x.Submit(1, other), api.ErrIO)
	for name, err := range map[string]error{"no saga": x.Submit(0, nil), "used": x.Submit(5, other), "the same": x.Submit(5, same), "new": x.Submit(6, same), "the one that failed": x.Submit(1, other)} {
		is(t, "P8: behind ErrIO: "+name, err, api.ErrFailed)
	}
}
