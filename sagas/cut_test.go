package sagas_test

import (
	"slices"
	"testing"

	"sagas/api"
	"sagas/plain"
	"sagas/sagas"
)

// maybe is what may be there: of each id the sagas, and whether it may be none of them.
type maybe map[int]struct {
	none  bool
	sagas [][]api.Step
}

// sure: that saga, and nothing else.
func (m maybe) sure(id int, l []api.Step) {
	e := m[id]
	e.none, e.sagas = false, [][]api.Step{l}
	m[id] = e
}

// unsure: that saga, or what may be there already.
func (m maybe) unsure(id int, l []api.Step) {
	e, known := m[id]
	e.none = e.none || !known
	e.sagas = append(slices.Clone(e.sagas), l)
	m[id] = e
}

// copied is the same, for another way to go on.
func (m maybe) copied() maybe {
	out := maybe{}
	for id, e := range m {
		out[id] = e
	}
	return out
}

// checked opens a device and holds what is found against what may be there. Where nothing waits to be flushed, it is what is there from then on.
func (m maybe) checked(t *testing.T, what string, d *api.Disk) *sagas.Engine {
	t.Helper()
	x := opened(t, d)
	writes := d.Writes()
	for _, s := range plain.All(x, api.MaxId) {
		at := slices.IndexFunc(m[s.Id].sagas, func(l []api.Step) bool { return x.Submit(s.Id, l) == nil })
		if at < 0 || s != begun(s.Id, len(m[s.Id].sagas[at])) {
			t.Fatalf("%s: %v may not be there", what, s)
		}
		if d.Pending() == 0 {
			m.sure(s.Id, m[s.Id].sagas[at])
		}
	}
	if d.Writes() != writes {
		t.Fatalf("P5: %s: a saga that is there is written", what)
	}
	for id, e := range m {
		_, err := x.Status(id)
		if err != nil && !e.none {
			t.Fatalf("%s: saga %d is lost", what, id)
		}
		if err != nil && d.Pending() == 0 {
			delete(m, id)
		}
	}
	return x
}

// submitted submits a saga that is not there, while the device may tell errors.
func (m maybe) submitted(t *testing.T, x *sagas.Engine, d *api.Disk, id int, l []api.Step) {
	t.Helper()
	told := d.Told()
	err := x.Submit(id, l)
	if d.Told() == told {
		is(t, "P5: Submit", err, api.OK)
		m.sure(id, l)
		return
	}
	is(t, "P1: Submit with errors of the device", err, api.ErrIO)
	m.unsure(id, l)
	is(t, "P8: behind it", x.Submit(id, l), api.ErrFailed)
}

// afters are the disks that a failure of power may leave: each one once.
func afters(d *api.Disk) []*api.Disk {
	seen := map[string]bool{}
	var out []*api.Disk
	for _, keep := range choices(d.Pending()) {
		e := d.After(keep)
		if !seen[e.Bytes()] {
			seen[e.Bytes()] = true
			out = append(out, e)
		}
	}
	return out
}

// goesOn lets the power fail, and wants that another Submit is then taken, and nothing else comes or goes by it.
func (m maybe) goesOn(t *testing.T, what string, d *api.Disk) {
	t.Helper()
	for _, last := range afters(d) {
		m := m.copied()
		x := m.checked(t, what, last)
		submit(t, x, 6, steps(6, "last"))
		m.sure(6, steps(6, "last"))
		m.checked(t, what+", and another Submit", last)
	}
}

// calls is more calls than a Submit makes of the device.
const calls = 6

// base is a disk with one saga.
func base(t *testing.T) (*api.Disk, maybe) {
	t.Helper()
	d := formatted(t, least+4*named(6))
	m := maybe{}
	m.sure(5, steps(6, "base"))
	submit(t, opened(t, d), 5, steps(6, "base"))
	return d, m
}

// Two Submits, of two ids or of one with other steps, both cut off at any place, with any choice of sectors; then one that is not.
func TestP8TwoSubmitsAreCutOff(t *testing.T) {
	for _, id := range []int{3, 4} {
		for at := range calls {
			d, m := base(t)
			x := opened(t, d)
			d.Off(at)
			m.submitted(t, x, d, 3, steps(6, "one"))
			for _, first := range afters(d) {
				for then := range calls {
					m.copied().cutAgain(t, first.After(nil), then, id)
				}
			}
		}
	}
}

// cutAgain cuts off a Submit to a disk on which another one was cut off.
func (m maybe) cutAgain(t *testing.T, d *api.Disk, at, id int) {
	t.Helper()
	x := m.checked(t, "P8: a Submit was cut off", d)
	if _, err := x.Status(id); err == nil {
		is(t, "P5: other steps", x.Submit(id, steps(5, "two")), api.ErrUsed)
		return
	}
	d.Off(at)
	m.submitted(t, x, d, id, steps(5, "two"))
	m.goesOn(t, "P8: two Submits were cut off", d)
}

// A Submit to which the device tells errors, no failure of power; then, on another engine, one that is cut off.
func TestP8OneFailsTheNextIsCutOff(t *testing.T) {
	for bad := range calls {
		for many := 1; many < 3; many++ {
			for then := range calls {
				d, m := base(t)
				x := opened(t, d)
				d.Bad(bad, many)
				m.submitted(t, x, d, 3, steps(6, "one"))
				d.Bad(0, 0)
				y := m.checked(t, "P8: the device told an error", d)
				d.Off(then)
				m.submitted(t, y, d, 4, steps(6, "two"))
				m.goesOn(t, "P8: behind an error and a failure of power", d)
			}
		}
	}
}

// An error may be told of what was done all the same.
func TestP8ErrorsOfWhatIsDone(t *testing.T) {
	for at := range calls {
		disk, m := base(t)
		d, lied := liar(disk, at)
		x := opened(t, d)
		err := x.Submit(3, steps(6, "one"))
		if !lied() {
			is(t, "P5: Submit", err, api.OK)
			m.sure(3, steps(6, "one"))
		} else {
			is(t, "P1: Submit with an error of what is done", err, api.ErrIO)
			m.unsure(3, steps(6, "one"))
		}
		m.copied().checked(t, "P8: behind an error of what is done", disk)
		for _, last := range afters(disk) {
			m.copied().checked(t, "P8: behind an error of what is done and a failure of power", last)
		}
	}
}

// A Format that did not make sure of its journal, and a Submit to that, which does.
func TestP5BehindAFormatThatFailed(t *testing.T) {
	for at := range 20 {
		d := api.NewDisk(16)
		d.Bad(at, 1)
		_ = sagas.Format(d)
		d.Bad(0, 0)
		x, err := sagas.Open(d, 1, unasked(t))
		if err != nil {
			is(t, "P3: behind a Format that failed", err, api.ErrCorrupt)
			continue
		}
		submit(t, x, 1, steps(2, "first"))
		for _, last := range afters(d) {
			tells(t, "P5: behind a Format that failed", opened(t, last), begun(1, 2))
		}
	}
}

// Long rows of Submits, errors, failures of power and other engines.
func TestP8LongRows(t *testing.T) {
	for seed := range uint64(300) {
		next := pattern(seed)
		d := formatted(t, api.MinBlocks+next(60))
		m := maybe{}
		x := opened(t, d)
		for range 60 {
			off := next(4) == 0
			if off {
				d.Off(next(calls))
			} else if next(3) == 0 {
				d.Bad(next(calls), 1+next(2))
			}
			goesOn := tried(t, m, x, d, 1+next(12), steps(1+next(6), string(rune('a'+next(3)))))
			d.Bad(0, 0)
			if off || next(6) == 0 {
				d = d.After([]int{next(16), next(16)})
				x = m.checked(t, "P8: behind a failure of power", d)
			} else if !goesOn || next(6) == 0 {
				x = m.checked(t, "P8: another engine", d)
			}
		}
	}
}

// tried submits any saga; false, if the engine has failed.
func tried(t *testing.T, m maybe, x *sagas.Engine, d *api.Disk, id int, l []api.Step) bool {
	t.Helper()
	told, writes := d.Told(), d.Writes()
	_, none := x.Status(id)
	err := x.Submit(id, l)
	switch e := plain.Told(err); {
	case e == api.ErrIO && d.Told() > told && none != nil:
		m.unsure(id, l)
	case e == api.ErrUsed && none == nil, e == api.ErrFull && none != nil, e == api.OK && none == nil:
		if d.Writes() != writes {
			t.Errorf("P5: Submit, answered with %v, writes", err)
		}
	case e == api.OK && d.Told() == told:
		m.sure(id, l)
	default:
		t.Errorf("P5: Submit: %v, the device told %d errors, Status %v", err, d.Told()-told, none)
	}
	return plain.Told(err) != api.ErrIO
}
