package sagas_test

import (
	"testing"

	"sagas/api"
	"sagas/plain"
	"sagas/sagas"
)

// goesOn lets the power fail, and wants that another Submit is then taken, and nothing else comes or goes by it.
func (m maybe) goesOn(t *testing.T, what string, d *api.Disk) {
	t.Helper()
	for _, last := range afters(d) {
		m := m.copied()
		x := m.checked(t, what, last)
		submit(t, x, 6, steps(6, "last"))
		m.sure(6, start(steps(6, "last")))
		m.checked(t, what+", and another Submit", last)
	}
}

// calls is more calls than a Submit makes of the device.
const calls = 6

// base is a disk with one saga.
func base(t *testing.T) (*api.Disk, maybe) {
	t.Helper()
	d := formatted(t, least+4*named(6))
	m := maybe{}
	m.sure(5, start(steps(6, "base")))
	submit(t, opened(t, d), 5, steps(6, "base"))
	return d, m
}

// Two Submits, of two ids or of one with other steps, both cut off at any place, with any choice of sectors; then one that is not.
func TestP8TwoSubmitsAreCutOff(t *testing.T) {
	for _, id := range []int{3, 4} {
		for at := range calls {
			d, m := base(t)
			x := opened(t, d)
			d.Off(at)
			m.submitted(t, x, d, 3, steps(6, "one"))
			for _, first := range afters(d) {
				for then := range calls {
					m.copied().cutAgain(t, first.After(nil), then, id)
				}
			}
		}
	}
}

// cutAgain cuts off a Submit to a disk on which another one was cut off.
func (m maybe) cutAgain(t *testing.T, d *api.Disk, at, id int) {
	t.Helper()
	x := m.checked(t, "P8: a Submit was cut off", d)
	if _, err := x.Status(id); err == nil {
		is(t, "P5: other steps", x.Submit(id, steps(5, "two")), api.ErrUsed)
		return
	}
	d.Off(at)
	m.submitted(t, x, d, id, steps(5, "two"))
	m.goesOn(t, "P8: two Submits were cut off", d)
}

// A Submit to which the device tells errors, no failure of power; then, on another engine, one that is cut off.
func TestP8OneFailsTheNextIsCutOff(t *testing.T) {
	for bad := range calls {
		for many := 1; many < 3; many++ {
			for then := range calls {
				d, m := base(t)
				x := opened(t, d)
				d.Bad(bad, many)
				m.submitted(t, x, d, 3, steps(6, "one"))
				d.Bad(0, 0)
				y := m.checked(t, "P8: the device told an error", d)
				d.Off(then)
				m.submitted(t, y, d, 4, steps(6, "two"))
				m.goesOn(t, "P8: behind an error and a failure of power", d)
			}
		}
	}
}

// An error may be told of what was done all the same.
func TestP8ErrorsOfWhatIsDone(t *testing.T) {
	for at := range calls {
		disk, m := base(t)
		d, lied := liar(disk, at)
		x := opened(t, d)
		err := x.Submit(3, steps(6, "one"))
		if !lied() {
			is(t, "P5: Submit", err, api.OK)
			m.sure(3, start(steps(6, "one")))
		} else {
			is(t, "P1: Submit with an error of what is done", err, api.ErrIO)
			m.unsure(3, start(steps(6, "one")))
		}
		m.copied().checked(t, "P8: behind an error of what is done", disk)
		for _, last := range afters(disk) {
			m.copied().checked(t, "P8: behind an error of what is done and a failure of power", last)
		}
	}
}

// A Format that did not make sure of its journal, and a Submit to that, which does.
func TestP5BehindAFormatThatFailed(t *testing.T) {
	for at := range 20 {
		d := api.NewDisk(16)
		d.Bad(at, 1)
		_ = sagas.Format(d)
		d.Bad(0, 0)
		x, err := sagas.Open(d, 1, unasked(t))
		if err != nil {
			is(t, "P3: behind a Format that failed", err, api.ErrCorrupt)
			continue
		}
		submit(t, x, 1, steps(2, "first"))
		for _, last := range afters(d) {
			tells(t, "P5: behind a Format that failed", opened(t, last), begun(1, 2))
		}
	}
}

// Long rows of Submits, errors, failures of power and other engines.
func TestP8LongRows(t *testing.T) {
	for seed := range uint64(300) {
		next := pattern(seed)
		d := formatted(t, api.MinBlocks+next(60))
		m := maybe{}
		x := opened(t, d)
		for range 60 {
			off := next(4) == 0
			if off {
				d.Off(next(calls))
			} else if next(3) == 0 {
				d.Bad(next(calls), 1+next(2))
			}
			goesOn := tried(t, m, x, d, 1+next(12), steps(1+next(6), string(rune('a'+next(3)))))
			d.Bad(0, 0)
			if off || next(6) == 0 {
				d = d.After([]int{next(16), next(16)})
				x = m.checked(t, "P8: behind a failure of power", d)
			} else if !goesOn || next(6) == 0 {
				x = m.checked(t, "P8: another engine", d)
			}
		}
	}
}

// tried submits any saga; false, if the engine has failed.
func tried(t *testing.T, m maybe, x *sagas.Engine, d *api.Disk, id int, l []api.Step) bool {
	t.Helper()
	told, writes := d.Told(), d.Writes()
	_, none := x.Status(id)
	err := x.Submit(id, l)
	switch e := plain.Told(err); {
	case e == api.ErrIO && d.Told() > told && none != nil:
		m.unsure(id, start(l))
	case e == api.ErrUsed && none == nil, e == api.ErrFull && none != nil, e == api.OK && none == nil:
		if d.Writes() != writes {
			t.Errorf("P5: Submit, answered with %v, writes", err)
		}
	case e == api.OK && d.Told() == told:
		m.sure(id, start(l))
	default:
		t.Errorf("P5: Submit: %v, the device told %d errors, Status %v", err, d.Told()-told, none)
	}
	return plain.Told(err) != api.ErrIO
}
