package sagas_test

import (
	"testing"

	"sagas/api"
	"sagas/plain"
	"sagas/sagas"
)

// scene is a disk and what may be there, an engine on it, its partner, and its course.
type scene struct {
	d *api.Disk
	m maybe
	x *sagas.Engine
	p *partner
	o *course
}

// opens opens another engine on a disk, with what may be there as it was; the partner stays.
func (s *scene) opens(t *testing.T, what string, d *api.Disk) *scene {
	t.Helper()
	x := s.p.opens(t, d, s.o.pause)
	m := s.m.copied()
	return &scene{d, m, x, s.p, newCourse(s.o.pause, m.found(t, what, x, d))}
}

// submit submits a saga that is not there, and wants no error.
func (s *scene) submit(t *testing.T, id int, l []api.Step) {
	t.Helper()
	s.m.submitted(t, s.x, s.d, id, l)
	s.o.places[id] = start(l)
}

// tick ticks; false, if the device told an error.
func (s *scene) tick(t *testing.T, what string) bool {
	t.Helper()
	return s.m.ticked(t, what, s.x, s.o, s.p, s.d)
}

// ends ticks until all sagas are at their ends, and wants that another engine finds them there.
func (s *scene) ends(t *testing.T, what string) {
	t.Helper()
	for i := 0; !s.o.over(); i++ {
		if i > 100 || !s.tick(t, what) {
			t.Fatalf("%s: sagas stand at %v", what, s.o.told())
		}
	}
	s.opens(t, what+", at the ends", s.d.After(nil))
}

// empty is a scene without a saga.
func empty(t *testing.T, blocks int, p *partner) *scene {
	t.Helper()
	d := formatted(t, blocks)
	return &scene{d, maybe{}, p.opens(t, d, 4), p, newCourse(4, map[int]place{})}
}

// many is a scene with three sagas: in a Tick one comes to be Committed, one Aborted, and one is at its first step. They have just the room that P9 names, and one more saga of two steps.
func many(t *testing.T) *scene {
	t.Helper()
	s := empty(t, least+2*named(2)+2*named(3), refuses(3))
	s.submit(t, 20, steps(3, "back"))
	for range 3 {
		s.tick(t, "P6: many")
	}
	s.submit(t, 10, steps(2, "ends"))
	s.tick(t, "P6: many")
	s.submit(t, 30, steps(3, "begins"))
	tells(t, "P6: many", s.x, api.Status{Id: 10, State: api.Running, Step: 2, Steps: 2}, api.Status{Id: 20, State: api.Undoing, Step: 1, Steps: 3}, begun(30, 3))
	return s
}

// anew is a scene with another engine.
func (s *scene) anew(t *testing.T) *scene {
	t.Helper()
	return s.opens(t, "P4: another engine", s.d)
}

// acts are what may be cut off.
func acts() map[string]func(t *testing.T, s *scene) {
	return map[string]func(t *testing.T, s *scene){
		"Tick": func(t *testing.T, s *scene) { t.Helper(); s.tick(t, "P8: Tick") },
		"Submit": func(t *testing.T, s *scene) {
			t.Helper()
			if _, err := s.x.Status(25); err != nil {
				s.submit(t, 25, steps(2, "new"))
			}
		},
	}
}

// ticks is more calls than a Tick of many makes of the device.
const ticks = 10

// The power fails at each call of a Tick or of a Submit, with each choice of sectors; then another engine goes on to the ends.
func TestP8CutOffOnce(t *testing.T) {
	for name, act := range acts() {
		for at := range ticks {
			for _, again := range []bool{false, true} {
				s := many(t)
				if again {
					s = s.anew(t)
				}
				s.d.Off(at)
				act(t, s)
				for _, after := range afters(s.d) {
					s.opens(t, "P8: cut off: "+name, after).ends(t, "P8: behind a cut off "+name)
				}
			}
		}
	}
}

// The power fails twice: of the pieces of two records that were cut off nothing may be made up.
func TestP8CutOffTwice(t *testing.T) {
	for one, act := range acts() {
		for two, then := range acts() {
			for at := range ticks {
				s := many(t)
				s.d.Off(at)
				act(t, s)
				for _, after := range afters(s.d) {
					for k := range ticks {
						what := "P8: cut off: " + one + ", then " + two
						s := s.opens(t, what, after.After(nil))
						s.d.Off(k)
						then(t, s)
						for _, last := range afters(s.d) {
							s.opens(t, what, last).ends(t, what)
						}
					}
				}
			}
		}
	}
}

// The device tells errors at each call of a Tick or of a Submit; then another engine goes on, with or without a failure of power.
func TestP8TheDeviceTellsErrors(t *testing.T) {
	for name, act := range acts() {
		for at := range ticks {
			for row := 1; row < 4; row++ {
				s := many(t).anew(t)
				s.d.Bad(at, row)
				act(t, s)
				s.d.Bad(0, 0)
				for _, after := range afters(s.d) {
					s.opens(t, "P8: an error and a failure of power: "+name, after).ends(t, "P8: an error and a failure of power: "+name)
				}
				s.opens(t, "P8: an error: "+name, s.d).ends(t, "P8: an error: "+name)
			}
		}
	}
}

// The device tells an error, and another engine is cut off at each call: what the first one wrote may wait to be flushed until then.
func TestP8OneFailsAnotherIsCutOff(t *testing.T) {
	for one, act := range acts() {
		for two, then := range acts() {
			for at := range ticks {
				for k := range ticks {
					what := "P8: an error: " + one + ", then cut off: " + two
					s := many(t)
					s.d.Bad(at, 1)
					act(t, s)
					s.d.Bad(0, 0)
					s = s.opens(t, what, s.d)
					s.d.Off(k)
					then(t, s)
					for _, last := range afters(s.d) {
						s.opens(t, what, last).ends(t, what)
					}
				}
			}
		}
	}
}

// Two engines in a row fail without a failure of power.
func TestP8TwoFail(t *testing.T) {
	for at := range ticks {
		for k := range ticks {
			s := many(t)
			s.d.Bad(at, 1)
			s.tick(t, "P8: one fails")
			s.d.Bad(0, 0)
			s = s.opens(t, "P8: one failed", s.d)
			s.d.Bad(k, 1)
			s.tick(t, "P8: another one fails")
			s.d.Bad(0, 0)
			for _, last := range afters(s.d) {
				s.opens(t, "P8: two failed, and the power", last).ends(t, "P8: two failed, and the power")
			}
			s.opens(t, "P8: two failed", s.d).ends(t, "P8: two failed")
		}
	}
}

// An error may be told of what was done all the same.
func TestP8ErrorsOfMovesThatAreDone(t *testing.T) {
	for at := range ticks {
		s := many(t)
		d, lied := liar(s.d, at)
		s.x = s.p.opens(t, d, 4)
		s.o = newCourse(4, s.o.places)
		err := s.x.Tick()
		last, was := s.o.ticked(t, "P8: an error of what is done", s.p.take(), lied())
		if !lied() {
			is(t, "P6: Tick", err, api.OK)
			continue
		}
		is(t, "P1: Tick with an error of what is done", err, api.ErrIO)
		s.m.all(s.o.places)
		if last > 0 {
			s.m.unsure(last, was)
		}
		s.m.told(t, "P8: an error of what is done", s.x, s.o, last, was)
		failed(t, "P8: an error of what is done", s.x)
		for _, after := range afters(s.d) {
			s.opens(t, "P8: an error of what is done, and the power", after).ends(t, "P8: an error of what is done, and the power")
		}
		s.opens(t, "P8: an error of what is done", s.d).ends(t, "P8: an error of what is done")
	}
}

// Once the device has told an error, no partner is asked in that Tick any more, nor ahead of the first asking.
func TestP8NobodyIsAskedBehindAnError(t *testing.T) {
	for at := range 2 {
		s := many(t).anew(t)
		s.d.Bad(at, 1)
		is(t, "P8: Tick", s.x.Tick(), api.ErrIO)
		if l := s.p.take(); len(l) > 0 {
			t.Errorf("P6: what was found is not sure, and %v is asked for", l)
		}
		tells(t, "P8: nothing is changed", s.x, s.o.told()...)
	}
	for at := 2; at < 8; at++ {
		s := many(t).anew(t)
		s.d.Bad(at, 1)
		is(t, "P8: Tick", s.x.Tick(), api.ErrIO)
		if l := s.p.take(); len(l) != at/2 {
			t.Errorf("P8: an error at call %d, and %v is asked for", at, l)
		}
	}
}

// Ahead of an engine's first asking all that Open found is sure, and nothing else may be there: also what waits to be flushed, and what was cut off.
func TestP6WhatWasFoundIsSureAheadOfTheFirstAsking(t *testing.T) {
	for name, act := range acts() {
		for at := range ticks {
			s := many(t)
			s.d.Bad(at, 1)
			act(t, s)
			s.d.Bad(0, 0)
			s = s.opens(t, "P4: what waits", s.d)
			found := plain.All(s.x, 9)
			rule, asked := s.p.rule, false
			s.p.rule = func(c api.Call) int {
				if !asked {
					for _, after := range afters(s.d) {
						tells(t, "P6: "+name+" failed; ahead of the first asking", opened(t, after), found...)
					}
					if s.d.Pending() > 0 {
						t.Errorf("P6: %d writes wait ahead of the first asking", s.d.Pending())
					}
				}
				asked = true
				return rule(c)
			}
			s.tick(t, "P6: what waits")
			if !asked && !s.o.over() {
				t.Error("P6: nobody is asked")
			}
		}
	}
}

// The document's example: the power fails while a Tick makes sure of a Done of step 1.
func TestP8Example(t *testing.T) {
	l := []api.Step{{Do: "a", Undo: "A"}, {Do: "b", Undo: "B"}}
	found := map[int]int{}
	for _, at := range []int{0, 1} {
		p := always(api.Done)
		d := formatted(t, 40)
		x := p.opens(t, d, 4)
		submit(t, x, 1, l)
		d.Off(at)
		is(t, "P8: Tick, cut off", x.Tick(), api.ErrIO)
		for _, after := range afters(d) {
			p.take()
			y := p.opens(t, after, 4)
			s, err := y.Status(1)
			is(t, "P8: Status", err, api.OK)
			if s != begun(1, 2) && s != (api.Status{Id: 1, State: api.Running, Step: 2, Steps: 2}) {
				t.Errorf("P8: another engine finds %v", s)
			}
			found[s.Step]++
			is(t, "P6: Tick", y.Tick(), api.OK)
			if got := p.take(); len(got) != 1 || got[0].C != (api.Call{Saga: 1, Step: s.Step, Data: l[s.Step-1].Do}) {
				t.Errorf("P8: found at step %d, another engine asks for %v", s.Step, got)
			}
		}
	}
	if found[1] == 0 || found[2] == 0 {
		t.Errorf("P8: found at steps %v", found)
	}
}

// Errors at other times are no errors of a Tick that does not ask the device for anything.
func TestP8ATickThatNeedsNoDevice(t *testing.T) {
	s := empty(t, 40, always(api.Later))
	s.submit(t, 1, steps(2, "later"))
	s.d.Off(0)
	for range 10 {
		s.tick(t, "P6: no device is needed")
	}
	if s.d.Told() > 0 || s.o.over() {
		t.Error("P6: the device is asked for something")
	}
}

// Long rows of Submits, Ticks, errors, failures of power and other engines; in the end all sagas come to their ends.
func TestP8LongRowsOfTicks(t *testing.T) {
	for seed := range uint64(400) {
		next := pattern(seed)
		s := empty(t, api.MinBlocks+next(100), anyhow(next))
		for range 80 {
			off := next(5) == 0
			if off {
				s.d.Off(next(ticks))
			} else if next(4) == 0 {
				s.d.Bad(next(ticks), 1+next(2))
			}
			goesOn := s.any(t, next)
			s.d.Bad(0, 0)
			if off || next(8) == 0 {
				s = s.opens(t, "P8: behind a failure of power", s.d.After([]int{next(16), next(16)}))
			} else if !goesOn || next(8) == 0 {
				s = s.opens(t, "P8: another engine", s.d)
			}
		}
		s.p.rule = func(c api.Call) int { return api.Done }
		s.opens(t, "P8: the last engine", s.d).ends(t, "P8: all come to their ends")
	}
}

// any submits something, or ticks a few times; false, if the engine has failed.
func (s *scene) any(t *testing.T, next func(below int) int) bool {
	t.Helper()
	if next(3) == 0 {
		id, l := 1+next(12), steps(1+next(6), string(rune('a'+next(3))))
		_, none := s.x.Status(id)
		goesOn := tried(t, s.m, s.x, s.d, id, l)
		if _, err := s.x.Status(id); goesOn && none != nil && err == nil {
			s.o.places[id] = start(l)
		}
		return goesOn
	}
	for range 1 + next(4) {
		if !s.tick(t, "P8: long rows") {
			return false
		}
	}
	return true
}
