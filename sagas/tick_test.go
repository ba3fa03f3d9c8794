package sagas_test

import (
	"errors"
	"math"
	"slices"
	"testing"

	"sagas/api"
	"sagas/plain"
	"sagas/sagas"
)

// example is the document's: a device of 40 blocks, pause 4, saga 1 with two steps.
func example(t *testing.T, p *partner) *sagas.Engine {
	t.Helper()
	x := p.opens(t, formatted(t, 40), 4)
	submit(t, x, 1, []api.Step{{Do: "a", Undo: "A"}, {Do: "b", Undo: "B"}})
	return x
}

// tick ticks once, and holds what is asked for, and then told, against what is wanted.
func tick(t *testing.T, x *sagas.Engine, p *partner, want api.Status, calls ...api.Call) {
	t.Helper()
	p.take()
	is(t, "P6: Tick", x.Tick(), api.OK)
	var got []api.Call
	for _, a := range p.take() {
		got = append(got, a.C)
	}
	if !slices.Equal(got, calls) {
		t.Errorf("P6: Tick asks for %v, want %v", got, calls)
	}
	tells(t, "P6: behind Tick", x, want)
}

func TestP6ExampleThatRuns(t *testing.T) {
	p := always(api.Done)
	x := example(t, p)
	tells(t, "P5", x, api.Status{Id: 1, State: 1, Step: 1, Steps: 2})
	tick(t, x, p, api.Status{Id: 1, State: 1, Step: 2, Steps: 2}, api.Call{Saga: 1, Step: 1, Data: "a"})
	tick(t, x, p, api.Status{Id: 1, State: 3, Step: 0, Steps: 2}, api.Call{Saga: 1, Step: 2, Data: "b"})
	tick(t, x, p, api.Status{Id: 1, State: 3, Step: 0, Steps: 2})
}

func TestP6ExampleThatIsTakenBack(t *testing.T) {
	p := refuses(2)
	x := example(t, p)
	tick(t, x, p, api.Status{Id: 1, State: 1, Step: 2, Steps: 2}, api.Call{Saga: 1, Step: 1, Data: "a"})
	tick(t, x, p, api.Status{Id: 1, State: 2, Step: 1, Steps: 2}, api.Call{Saga: 1, Step: 2, Data: "b"})
	tick(t, x, p, api.Status{Id: 1, State: 4, Step: 0, Steps: 2}, api.Call{Saga: 1, Step: 1, Back: true, Data: "A"})
	tick(t, x, p, api.Status{Id: 1, State: 4, Step: 0, Steps: 2})
	p = refuses(1)
	x = example(t, p)
	tick(t, x, p, api.Status{Id: 1, State: 4, Step: 0, Steps: 2}, api.Call{Saga: 1, Step: 1, Data: "a"})
	tick(t, x, p, api.Status{Id: 1, State: 4, Step: 0, Steps: 2})
}

func TestP6ExampleThatIsAskedForAgainAndAgain(t *testing.T) {
	p := always(api.Later)
	x := example(t, p)
	due := map[int]int{1: 2, 2: 4, 4: 8, 8: 12, 12: 16, 16: 20}
	want := begun(1, 2)
	for at := 1; at < 20; at++ {
		if due[at] == 0 {
			tick(t, x, p, want)
			continue
		}
		want.Tries, want.Due = want.Tries+1, due[at]
		tick(t, x, p, want, api.Call{Saga: 1, Step: 1, Data: "a"})
	}
}

// The ticks at which a saga is asked for that is never done, by the pause.
func TestP6TicksOfAskings(t *testing.T) {
	for pause, want := range map[int][]int{
		1:  {1, 2, 3, 4, 5, 6, 7, 8},
		2:  {1, 2, 4, 6, 8, 10},
		3:  {1, 2, 4, 7, 10, 13},
		4:  {1, 2, 4, 8, 12, 16},
		5:  {1, 2, 4, 8, 13, 18},
		63: {1, 2, 4, 8, 16, 32, 64, 127, 190},
		64: {1, 2, 4, 8, 16, 32, 64, 128, 192, 256, 320},
	} {
		p := always(api.Later)
		x, _ := submitted(t, formatted(t, 40), pause, p, 3)
		var got []int
		for at := 1; len(got) < len(want) && at < 1000; at++ {
			is(t, "P6: Tick", x.Tick(), api.OK)
			if len(p.take()) > 0 {
				got = append(got, at)
				s, _ := x.Status(1)
				if i := len(got); s.Tries != i || i < len(want) && s.Due != want[i] {
					t.Errorf("P6: pause %d, behind tick %d: %v", pause, at, s)
				}
			}
		}
		if !slices.Equal(got, want) {
			t.Errorf("P6: pause %d: asked for at %v, want %v", pause, got, want)
		}
	}
}

// A saga that is asked for in vain for a long time waits no longer than the pause, and is asked for no sooner.
func TestP6AVeryLongRow(t *testing.T) {
	for _, pause := range []int{1, 4, 64} {
		p := always(api.Later)
		x, o := submitted(t, formatted(t, 40), pause, p, 1)
		o.runs(t, "P6: a long row", x, p, 150*pause)
	}
}

func TestP6SagasThatAreDone(t *testing.T) {
	for n := 1; n <= api.MaxSteps; n++ {
		p := always(api.Done)
		x, o := submitted(t, formatted(t, 40), 4, p, n)
		o.runs(t, "P6: done", x, p, n)
		tells(t, "P6: done", x, api.Status{Id: 1, State: api.Committed, Steps: n})
		o.runs(t, "P6: behind its end", x, p, 3)
	}
}

func TestP6SagasThatAreRefused(t *testing.T) {
	for n := 1; n <= api.MaxSteps; n++ {
		for step := 1; step <= n; step++ {
			p := refuses(step)
			x, o := submitted(t, formatted(t, 40), 4, p, n)
			o.runs(t, "P6: refused", x, p, step-1)
			tells(t, "P6: ahead of the refusal", x, api.Status{Id: 1, State: api.Running, Step: step, Steps: n})
			o.runs(t, "P6: refused", x, p, 1)
			if step > 1 {
				tells(t, "P6: behind the refusal", x, api.Status{Id: 1, State: api.Undoing, Step: step - 1, Steps: n})
			}
			o.runs(t, "P6: taken back", x, p, step-1)
			tells(t, "P6: taken back", x, api.Status{Id: 1, State: api.Aborted, Steps: n})
			o.runs(t, "P6: behind its end", x, p, 3)
		}
	}
}

// Tries and Due begin anew behind each move, in both directions.
func TestP6InVainBetweenMoves(t *testing.T) {
	p := inTurn(api.Later, api.Later, api.Later, api.Done, api.Later, api.Done, api.Never, api.Later, api.Later, api.Done)
	x, o := submitted(t, formatted(t, 40), 4, p, 3)
	o.runs(t, "P6: in vain between moves", x, p, 40)
	tells(t, "P6: in vain between moves", x, api.Status{Id: 1, State: api.Aborted, Steps: 3})
}

// inVain are partners that tell nothing by which a saga moves.
func inVain() map[string]func(c api.Call) int {
	out := map[string]func(c api.Call) int{
		"none":            nil,
		"a text":          func(c api.Call) int { panic("no partner") },
		"nil":             func(c api.Call) int { panic(nil) },
		"a reply":         func(c api.Call) int { panic(api.Done) },
		"an error":        func(c api.Call) int { panic(api.ErrIO) },
		"a fault":         func(c api.Call) int { panic(&api.Fault{Op: "x", E: api.OK}) },
		"an error loop":   func(c api.Call) int { panic(loop{}) },
		"a run-time one":  func(c api.Call) int { var l []int; return l[c.Step] },
		"a deferred one":  func(c api.Call) int { defer panic("behind"); return api.Done },
		"errors that are": func(c api.Call) int { panic(errors.Join(api.ErrIO, api.ErrFailed)) },
	}
	for name, reply := range map[string]int{"Later": api.Later, "3": 3, "77": 77, "-1": -1, "256": 256, "258": 258, "least": math.MinInt, "most": math.MaxInt, "1 << 32": 1 << 32} {
		out["the reply "+name] = func(c api.Call) int { return reply }
	}
	return out
}

func TestP6WhatMovesNothing(t *testing.T) {
	for name, call := range inVain() {
		d := formatted(t, 40)
		x, err := sagas.Open(d, 4, call)
		is(t, "P4: Open", err, api.OK)
		submit(t, x, 1, steps(2, "one"))
		submit(t, x, 2, steps(1, "two"))
		was, writes := d.Bytes(), d.Writes()
		for _, want := range [][2]int{{1, 2}, {2, 4}, {2, 4}, {3, 8}} {
			is(t, "P6: Tick, "+name, x.Tick(), api.OK)
			one, two := begun(1, 2), begun(2, 1)
			one.Tries, one.Due, two.Tries, two.Due = want[0], want[1], want[0], want[1]
			tells(t, "P6: "+name, x, one, two)
		}
		if d.Bytes() != was || d.Writes() != writes || d.Pending() != 0 {
			t.Errorf("P6: %s: something is written", name)
		}
		tells(t, "P6: another engine, "+name, opened(t, d), begun(1, 2), begun(2, 1))
	}
}

// The same, with Back: and Never is none of its replies.
func TestP6WhatMovesNothingBack(t *testing.T) {
	all := inVain()
	all["Never"] = func(c api.Call) int { return api.Never }
	for name, call := range all {
		back := func(c api.Call) int {
			switch {
			case c.Back:
				return call(c)
			case c.Step == 3:
				return api.Never
			}
			return api.Done
		}
		d := formatted(t, 40)
		x, err := sagas.Open(d, 4, back)
		is(t, "P4: Open", err, api.OK)
		submit(t, x, 1, steps(3, "one"))
		for range 3 {
			is(t, "P6: Tick", x.Tick(), api.OK)
		}
		stays := api.Status{Id: 1, State: api.Undoing, Step: 2, Steps: 3}
		tells(t, "P6: refused", x, stays)
		writes := d.Writes()
		for _, want := range [][2]int{{1, 5}, {2, 7}, {2, 7}, {3, 11}} {
			is(t, "P6: Tick, "+name, x.Tick(), api.OK)
			stays.Tries, stays.Due = want[0], want[1]
			tells(t, "P6: with Back, "+name, x, stays)
		}
		if d.Writes() != writes {
			t.Errorf("P6: with Back, %s: something is written", name)
		}
	}
}

// A partner that panics for one saga is asked for the others all the same.
func TestP6OnePanicOfMany(t *testing.T) {
	p := &partner{rule: func(c api.Call) int {
		if c.Saga == 2 {
			panic("not this one")
		}
		return api.Done
	}}
	x, o := submitted(t, formatted(t, 100), 4, p, 2, 2, 2)
	o.runs(t, "P6: one panics", x, p, 10)
}

// All sagas that are due are asked for in one Tick, once each, by rising ids, whatever the order was in which they came.
func TestP6ByRisingIds(t *testing.T) {
	p := always(api.Done)
	x := p.opens(t, formatted(t, 100), 4)
	ids := []int{500, 1, 1000, 2, 999, 256, 255}
	for _, id := range ids {
		submit(t, x, id, steps(2, "row"))
	}
	slices.Sort(ids)
	for step := 1; step <= 3; step++ {
		is(t, "P6: Tick", x.Tick(), api.OK)
		var got []int
		for _, a := range p.take() {
			if a.C.Step != step || a.C.Back || a.C.Data != steps(2, "row")[step-1].Do {
				t.Errorf("P6: tick %d asks for %v", step, a.C)
			}
			got = append(got, a.C.Saga)
		}
		if step <= 2 && !slices.Equal(got, ids) || step > 2 && len(got) > 0 {
			t.Errorf("P6: tick %d asks for %v", step, got)
		}
	}
}

// Any data is handed on as it was submitted.
func TestP6Data(t *testing.T) {
	l := []api.Step{{}, {Do: "\x00", Undo: "\x00\x00"}, {Do: "12345678", Undo: "abcdefgh"}, {Do: "\xff\xfe", Undo: "é€"}, {Do: "same", Undo: "same"}, {Do: "end"}}
	for _, again := range []bool{false, true} {
		d := formatted(t, 40)
		p := refuses(6)
		x := p.opens(t, d, 4)
		submit(t, x, 1000, l)
		var got, want []api.Call
		for i, s := range l {
			want = append(want, api.Call{Saga: 1000, Step: i + 1, Data: s.Do})
		}
		for i := 4; i >= 0; i-- {
			want = append(want, api.Call{Saga: 1000, Step: i + 1, Back: true, Data: l[i].Undo})
		}
		for range 12 {
			is(t, "P6: Tick", x.Tick(), api.OK)
			for _, a := range p.take() {
				got = append(got, a.C)
			}
			if again {
				x = p.opens(t, d, 4)
			}
		}
		if !slices.Equal(got, want) {
			t.Errorf("P6: asked for %+v, want %+v", got, want)
		}
	}
}

// A move is sure ahead of the next time that a partner is asked, and when Tick has answered.
func TestP6MovesAreSureAheadOfTheNextAsking(t *testing.T) {
	d := formatted(t, 100)
	p := refuses(4)
	x, o := submitted(t, d, 4, p, 1, 2, 3, 4)
	rule, asked := p.rule, 0
	p.rule = func(c api.Call) int {
		asked++
		if d.Pending() != 0 {
			t.Errorf("P6: %d writes wait while %v is asked for", d.Pending(), c)
		}
		tells(t, "P6: another engine, while a partner is asked", opened(t, d.After(nil)), plain.All(x, 9)...)
		return rule(c)
	}
	for range 8 {
		is(t, "P6: Tick", x.Tick(), api.OK)
		o.ticked(t, "P6", p.take(), false)
		if d.Pending() != 0 {
			t.Errorf("P6: behind Tick %d writes wait", d.Pending())
		}
		tells(t, "P6: another engine behind a failure of power", opened(t, d.After(nil)), o.told()...)
	}
	if asked != 1+2+3+7 || !o.over() {
		t.Errorf("P6: asked %d times, %v", asked, o.told())
	}
}

// Where nothing is due, or there is no saga, the device is left alone, and the partner too.
func TestP6ATickWithNothingToDo(t *testing.T) {
	d, rest := quiet(t, formatted(t, 40))
	p := always(api.Done)
	x := p.opens(t, d, 4)
	submit(t, x, 1, steps(1, "a"))
	is(t, "P6: Tick", x.Tick(), api.OK)
	p.take()
	y := p.opens(t, d, 4)
	rest()
	for range 5 {
		is(t, "P6: Tick", x.Tick(), api.OK)
		is(t, "P6: Tick", y.Tick(), api.OK)
	}
	if l := p.take(); len(l) > 0 {
		t.Errorf("P6: asked for %v", l)
	}
	d, rest = quiet(t, formatted(t, 40))
	x = p.opens(t, d, 4)
	rest()
	is(t, "P6: Tick without a saga", x.Tick(), api.OK)
}

// P4: another engine begins with its clock at 0, and with no tries.
func TestP4TheClockBeginsAnew(t *testing.T) {
	d := formatted(t, 60)
	p := inTurn(api.Done, api.Later)
	x, o := submitted(t, d, 64, p, 2)
	o.runs(t, "P6", x, p, 20)
	for range 3 {
		y := p.opens(t, d, 64)
		again := newCourse(64, o.places)
		tells(t, "P4: another engine", y, again.told()...)
		again.runs(t, "P4: another engine", y, p, 10)
	}
}

// A saga that comes in later is due at once, whatever the clock shows.
func TestP6SagasThatComeInLater(t *testing.T) {
	p := anyhow(pattern(3))
	x, o := submitted(t, formatted(t, 200), 8, p, 3)
	for id := 2; id < 9; id++ {
		o.runs(t, "P6: one comes in later", x, p, 7)
		submit(t, x, id, steps(id%6+1, "later"))
		o.places[id] = start(steps(id%6+1, "later"))
		tells(t, "P5: one comes in later", x, o.told()...)
	}
	o.runs(t, "P6: one comes in later", x, p, 200)
}

// Submit of a saga that has moved is no new one.
func TestP5SagasThatHaveMoved(t *testing.T) {
	d := formatted(t, 60)
	p := refuses(2)
	x, o := submitted(t, d, 4, p, 3, 1, 2)
	for range 5 {
		for _, y := range []*sagas.Engine{x, opened(t, d)} {
			writes := d.Writes()
			for id, place := range o.places {
				is(t, "P5: the same again", y.Submit(id, place.steps), api.OK)
				is(t, "P5: other steps", y.Submit(id, steps(4, "other")), api.ErrUsed)
			}
			if d.Writes() != writes {
				t.Error("P5: a saga that is there is written")
			}
			tells(t, "P5: the same again", y, o.told()...)
		}
		o.runs(t, "P6", x, p, 1)
	}
}

// Any replies, any sizes, any pause: what is asked for and told is what the document says, also by another engine on the way.
func TestP6LongRows(t *testing.T) {
	for seed := range uint64(200) {
		next := pattern(seed)
		d := formatted(t, 150)
		p := anyhow(next)
		var sizes []int
		for range 1 + next(8) {
			sizes = append(sizes, 1+next(6))
		}
		pause := 1 + next(api.MaxPause)
		x, o := submitted(t, d, pause, p, sizes...)
		for range 6 {
			o.runs(t, "P6: long rows", x, p, next(40))
			if next(3) == 0 {
				x = p.opens(t, d, pause)
				o = newCourse(pause, o.places)
				tells(t, "P4: another engine", x, o.told()...)
			}
		}
	}
}

// P2: two engines with the same replies and calls tell the same, and know nothing of each other.
func TestP2WhatATickHangsOn(t *testing.T) {
	var logs [2][]plain.Asked
	var told [2][]api.Status
	for i := range logs {
		p := anyhow(pattern(11))
		x, _ := submitted(t, formatted(t, 100), 8, p, 3, 6, 1)
		for range 100 {
			is(t, "P6: Tick", x.Tick(), api.OK)
		}
		logs[i], told[i] = p.take(), plain.All(x, 10)
	}
	if !slices.Equal(logs[0], logs[1]) || !slices.Equal(told[0], told[1]) {
		t.Errorf("P2: two engines differ: %v, %v", told[0], told[1])
	}
}
