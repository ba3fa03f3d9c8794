package sagas_test

import (
	"maps"
	"slices"
	"testing"

	"sagas/api"
	"sagas/plain"
	"sagas/sagas"
)

// partner replies by a rule, and keeps what it was asked for.
type partner struct {
	asked []plain.Asked
	rule  func(c api.Call) int
}

func (p *partner) ask(c api.Call) int {
	at := len(p.asked)
	p.asked = append(p.asked, plain.Asked{C: c, Reply: api.Later}) // that stays, if the rule panics
	reply := p.rule(c)
	p.asked[at].Reply = reply
	return reply
}

// always is a partner that has one reply.
func always(reply int) *partner {
	return &partner{rule: func(c api.Call) int { return reply }}
}

// inTurn is a partner with a row of replies, the last one of them again and again.
func inTurn(replies ...int) *partner {
	said := 0
	return &partner{rule: func(c api.Call) int {
		said++
		return replies[min(said, len(replies))-1]
	}}
}

// refuses is a partner that refuses one step for good, and does all else.
func refuses(step int) *partner {
	return &partner{rule: func(c api.Call) int {
		if c.Step == step && !c.Back {
			return api.Never
		}
		return api.Done
	}}
}

// anyhow is a partner whose replies follow no plain rule; some of them are none, and sometimes it panics.
func anyhow(next func(below int) int) *partner {
	return &partner{rule: func(c api.Call) int {
		switch next(8) {
		case 0:
			return api.Later
		case 1:
			return api.Never
		case 2:
			return next(1000) - 500
		case 3:
			panic(next(2))
		}
		return api.Done
	}}
}

// opens is an engine with this partner.
func (p *partner) opens(t *testing.T, d api.Device, pause int) *sagas.Engine {
	t.Helper()
	x, err := sagas.Open(d, pause, p.ask)
	if err != nil || x == nil {
		t.Fatalf("P4: Open: %v", err)
	}
	return x
}

// take gives what the partner was asked for since the last time.
func (p *partner) take() []plain.Asked {
	l := p.asked
	p.asked = nil
	return l
}

// place is where a saga stands: its steps, its state, and the step that is next.
type place struct {
	steps       []api.Step
	state, step int
}

// start is where a saga stands that was submitted.
func start(l []api.Step) place { return place{l, api.Running, 1} }

func (p place) open() bool { return p.state == api.Running || p.state == api.Undoing }

// moved is P6: where a reply moves a saga; false, if it moves nothing.
func (p place) moved(reply int) (place, bool) {
	ahead := place{p.steps, api.Undoing, p.step - 1}
	if ahead.step == 0 {
		ahead.state = api.Aborted
	}
	behind := place{p.steps, api.Running, p.step + 1}
	if p.step == len(p.steps) {
		behind = place{p.steps, api.Committed, 0}
	}
	switch {
	case p.state == api.Running && reply == api.Done:
		return behind, true
	case p.state == api.Running && reply == api.Never, p.state == api.Undoing && reply == api.Done:
		return ahead, true
	}
	return p, false
}

// call is P6: what is asked for.
func (p place) call(id int) api.Call {
	if p.state == api.Undoing {
		return api.Call{Saga: id, Step: p.step, Back: true, Data: p.steps[p.step-1].Undo}
	}
	return api.Call{Saga: id, Step: p.step, Data: p.steps[p.step-1].Do}
}

func (p place) status(id int) api.Status {
	return api.Status{Id: id, State: p.state, Step: p.step, Steps: len(p.steps)}
}

// course is what the document says of an engine: its clock, and where its sagas stand.
type course struct {
	clock, pause int
	places       map[int]place
	tries, due   map[int]int
}

// newCourse is that of an engine that was opened, and has found these sagas.
func newCourse(pause int, places map[int]place) *course {
	return &course{0, pause, maps.Clone(places), map[int]int{}, map[int]int{}}
}

// ticked holds what a partner was asked for in a Tick against P6, and goes on by its replies. Where the device told an error, nothing more was asked for; then it tells the saga whose reply came last, if it moved it (else 0), and where it stood.
func (o *course) ticked(t *testing.T, what string, asked []plain.Asked, failed bool) (last int, was place) {
	t.Helper()
	o.clock++
	for _, id := range slices.Sorted(maps.Keys(o.places)) {
		p := o.places[id]
		if !p.open() || o.due[id] > o.clock {
			continue
		}
		if len(asked) == 0 && failed {
			break
		}
		if len(asked) == 0 || asked[0].C != p.call(id) {
			t.Fatalf("%s: at tick %d the partner was asked for %v, want %v", what, o.clock, asked, p.call(id))
		}
		next, moves := p.moved(asked[0].Reply)
		last, was = 0, place{}
		if moves {
			last, was = id, p
			o.tries[id], o.due[id] = 0, 0
		} else {
			o.due[id] = o.clock + min(1<<min(o.tries[id], 20), o.pause)
			o.tries[id]++
		}
		o.places[id] = next
		asked = asked[1:]
	}
	if len(asked) > 0 {
		t.Fatalf("%s: at tick %d the partner was asked for %v too", what, o.clock, asked)
	}
	return last, was
}

// told is all that the engine has to tell.
func (o *course) told() []api.Status {
	var out []api.Status
	for _, id := range slices.Sorted(maps.Keys(o.places)) {
		s := o.places[id].status(id)
		s.Tries, s.Due = o.tries[id], o.due[id]
		out = append(out, s)
	}
	return out
}

// over: are all sagas at their end?
func (o *course) over() bool {
	for _, p := range o.places {
		if p.open() {
			return false
		}
	}
	return true
}

// runs ticks so often, and holds all that is asked for and told against the document.
func (o *course) runs(t *testing.T, what string, x *sagas.Engine, p *partner, ticks int) {
	t.Helper()
	p.take()
	for range ticks {
		is(t, what+": Tick", x.Tick(), api.OK)
		o.ticked(t, what, p.take(), false)
		tells(t, what, x, o.told()...)
	}
}

// submitted is a course with an engine, to which sagas of so many steps were submitted, with the ids 1 and so on.
func submitted(t *testing.T, d *api.Disk, pause int, p *partner, sizes ...int) (*sagas.Engine, *course) {
	t.Helper()
	x := p.opens(t, d, pause)
	o := newCourse(pause, nil)
	o.places = map[int]place{}
	for i, n := range sizes {
		l := steps(n, "saga"+string(rune('1'+i)))
		submit(t, x, i+1, l)
		o.places[i+1] = start(l)
	}
	return x, o
}

// chance is where a saga may stand on a device, and whether it may not be there at all.
type chance struct {
	none   bool
	places []place
}

// maybe is what may be there: of each id its chance.
type maybe map[int]chance

// sure: the saga stands there, and nowhere else.
func (m maybe) sure(id int, p place) { m[id] = chance{places: []place{p}} }

// unsure: it stands there, or as it may be there already.
func (m maybe) unsure(id int, p place) {
	old, known := m[id]
	m[id] = chance{old.none || !known, append(slices.Clone(old.places), p)}
}

// all: what an engine found is sure, and nothing else may be there.
func (m maybe) all(places map[int]place) {
	clear(m)
	for id, p := range places {
		m.sure(id, p)
	}
}

// copied is the same, for another way to go on.
func (m maybe) copied() maybe { return maps.Clone(m) }

// found holds what an engine has found on a device against what may be there, and tells it. Where nothing waits to be flushed, it is what is there from then on.
func (m maybe) found(t *testing.T, what string, x *sagas.Engine, d *api.Disk) map[int]place {
	t.Helper()
	writes := d.Writes()
	out := map[int]place{}
	for _, s := range plain.All(x, api.MaxId) {
		at := slices.IndexFunc(m[s.Id].places, func(p place) bool {
			return p.status(s.Id) == s && x.Submit(s.Id, p.steps) == nil
		})
		if at < 0 {
			t.Fatalf("%s: %v may not be there", what, s)
		}
		out[s.Id] = m[s.Id].places[at]
	}
	if d.Writes() != writes {
		t.Fatalf("P5: %s: a saga that is there is written", what)
	}
	for id, c := range m {
		if _, there := out[id]; !there && !c.none {
			t.Fatalf("%s: saga %d is lost", what, id)
		}
	}
	if d.Pending() == 0 {
		m.all(out)
	}
	return out
}

// checked opens a device, and holds what is found against what may be there.
func (m maybe) checked(t *testing.T, what string, d *api.Disk) *sagas.Engine {
	t.Helper()
	x := opened(t, d)
	m.found(t, what, x, d)
	return x
}

// submitted submits a saga that is not there, while the device may tell errors.
func (m maybe) submitted(t *testing.T, x *sagas.Engine, d *api.Disk, id int, l []api.Step) {
	t.Helper()
	told := d.Told()
	err := x.Submit(id, l)
	if d.Told() == told {
		is(t, "P5: Submit", err, api.OK)
		m.sure(id, start(l))
		return
	}
	is(t, "P1: Submit with errors of the device", err, api.ErrIO)
	m.unsure(id, start(l))
	failed(t, "P8: behind an error in Submit", x)
}

// ticked ticks, while the device may tell errors; false, if it did: then the engine has failed. What was asked for is held against the engine's course, and what it tells.
func (m maybe) ticked(t *testing.T, what string, x *sagas.Engine, o *course, p *partner, d *api.Disk) bool {
	t.Helper()
	told := d.Told()
	p.take()
	err := x.Tick()
	bad, asked := d.Told() > told, p.take()
	last, was := o.ticked(t, what, asked, bad)
	if len(asked) > 0 {
		m.all(o.places)
	}
	if !bad {
		is(t, what+": Tick", err, api.OK)
		tells(t, what, x, o.told()...)
		return true
	}
	is(t, what+": Tick with errors of the device", err, api.ErrIO)
	if last > 0 {
		m.unsure(last, was)
	}
	m.told(t, what, x, o, last, was)
	failed(t, what, x)
	if l := p.take(); len(l) > 0 {
		t.Errorf("P8: %s: a failed engine asks for %v", what, l)
	}
	return false
}

// told holds what a failed engine tells against P8: of the saga that was cut off either of two.
func (m maybe) told(t *testing.T, what string, x *sagas.Engine, o *course, last int, was place) {
	t.Helper()
	want := o.told()
	got := plain.All(x, api.MaxId)
	if len(got) != len(want) {
		t.Fatalf("P8: %s: a failed engine tells %v, want %v", what, got, want)
	}
	for i, s := range got {
		one, err := x.Status(s.Id)
		is(t, "P8: Status of a failed engine", err, api.OK)
		if one != s {
			t.Errorf("P8: %s: Status tells %v, All %v", what, one, s)
		}
		s.Tries, s.Due = 0, 0
		if s != o.places[want[i].Id].status(want[i].Id) && (s.Id != last || s != was.status(last)) {
			t.Errorf("P8: %s: a failed engine tells %v, want %v", what, s, want[i])
		}
	}
}

// failed wants that an engine has failed: whatever it is called for, it answers so, and leaves its sagas alone.
func failed(t *testing.T, what string, x *sagas.Engine) {
	t.Helper()
	was := plain.All(x, api.MaxId)
	for range 2 {
		is(t, what+": Tick", x.Tick(), api.ErrFailed)
		is(t, what+": Submit", x.Submit(900, steps(1, "new")), api.ErrFailed)
		is(t, what+": Submit of what is no saga", x.Submit(0, nil), api.ErrFailed)
		for _, s := range was {
			is(t, what+": Submit of what is there", x.Submit(s.Id, steps(s.Steps, "any")), api.ErrFailed)
		}
	}
	tells(t, what, x, was...)
}

// afters are the disks that a failure of power may leave: each one once.
func afters(d *api.Disk) []*api.Disk {
	seen := map[string]bool{}
	var out []*api.Disk
	for _, keep := range choices(d.Pending()) {
		e := d.After(keep)
		if !seen[e.Bytes()] {
			seen[e.Bytes()] = true
			out = append(out, e)
		}
	}
	return out
}
