package sagas_test

import (
	"math"
	"testing"

	"sagas/api"
	"sagas/plain"
	"sagas/record"
	"sagas/sagas"
)

func TestP4OpenWantsAPause(t *testing.T) {
	d := formatted(t, 20)
	pauses := map[int]api.Errno{math.MinInt: api.ErrConfig, -1: api.ErrConfig, 0: api.ErrConfig, 1: api.OK, 2: api.OK, 63: api.OK, 64: api.OK, 65: api.ErrConfig, math.MaxInt: api.ErrConfig}
	for pause, want := range pauses {
		x, err := sagas.Open(d, pause, unasked(t))
		is(t, "P4: Open", err, want)
		if (x == nil) != (want != api.OK) {
			t.Errorf("P1: Open with the pause %d: is there an engine? %v", pause, x != nil)
		}
	}
}

func TestP4OpenWantsAFitSize(t *testing.T) {
	sizes := map[int]api.Errno{0: api.ErrSize, 7: api.ErrSize, 8: api.ErrCorrupt, 400: api.ErrCorrupt, 401: api.ErrSize, 999: api.ErrSize}
	for n, want := range sizes {
		found(t, "P4: Open of noughts", api.NewDisk(n), want)
	}
	for _, n := range []int{-1, math.MinInt, math.MaxInt} {
		d := &odd{Disk: formatted(t, 20), blocks: func() int { return n }}
		found(t, "P4: Open", d, api.ErrSize)
	}
}

func TestP4OpenFindsNoJournal(t *testing.T) {
	for _, n := range []int{8, 20, 400} {
		found(t, "P4: Open of noughts", api.NewDisk(n), api.ErrCorrupt)
		found(t, "P4: Open of a scrawl", scrawl(t, n), api.ErrCorrupt)
	}
	d := formatted(t, 20)
	d.Write(0, nil)
	found(t, "P4: Open of a journal that has lost its head", d, api.ErrCorrupt)
	other := record.Head(21)
	d.Write(0, other[:])
	found(t, "P4: Open of a journal of another size", d, api.ErrCorrupt)
}

func TestP4OpenFindsAnEmptyJournal(t *testing.T) {
	for _, n := range []int{8, 20, 400} {
		d := formatted(t, n)
		for _, pause := range []int{1, 64} {
			x, err := plain.Open(d, pause, plain.NewPartner(nil))
			is(t, "P4: Open", err, api.OK)
			if x == nil {
				t.Fatal("P4: no engine")
			}
			if l := plain.All(x, 1); len(l) != 0 {
				t.Errorf("P3, P4: a saga in an empty journal: %v", l)
			}
		}
	}
}

// What was written last is read, though it is not sure.
func TestP4OpenReadsWhatWaits(t *testing.T) {
	d := api.NewDisk(8)
	head := record.Head(8)
	d.Write(0, head[:])
	found(t, "P4: Open of a head that is not sure", d, api.OK)
	found(t, "P4: Open behind a failure of power", d.After(nil), api.ErrCorrupt)
}

func TestP4OpenWritesAndFlushesNothing(t *testing.T) {
	for name, disk := range map[string]*api.Disk{"noughts": api.NewDisk(20), "a scrawl": scrawl(t, 20), "a journal": formatted(t, 20)} {
		d := &odd{Disk: disk}
		d.write = func(i int, b []byte) error { t.Errorf("P4: Open of %s writes block %d", name, i); return nil }
		d.flush = func() error { t.Errorf("P4: Open of %s flushes", name); return nil }
		for at := -1; at < 25; at++ {
			if at >= 0 {
				disk.Bad(at, 1)
			}
			for _, pause := range []int{0, 1} {
				_, _ = sagas.Open(d, pause, unasked(t))
			}
		}
	}
}

func TestP4TheDeviceTellsErrors(t *testing.T) {
	for name, c := range map[string]struct {
		d    *api.Disk
		want api.Errno
	}{"noughts": {api.NewDisk(20), api.ErrCorrupt}, "a journal": {formatted(t, 20), api.OK}} {
		for at, done := 0, false; !done; at++ {
			c.d.Bad(at, 1)
			told := c.d.Told()
			x, err := sagas.Open(c.d, 1, unasked(t))
			done = c.d.Told() == told
			if done {
				is(t, "P4: Open of "+name, err, c.want)
			} else if e := plain.Told(err); e != api.ErrIO && e != c.want {
				t.Errorf("P1: Open of %s with an error: %v", name, err)
			}
			if (x == nil) != (err != nil) {
				t.Errorf("P1: Open of %s: is there an engine? %v, beside %v", name, x != nil, err)
			}
		}
	}
}

// All sagas that a device has room for are found, whatever their order was.
func TestP4OpenFindsTheSagas(t *testing.T) {
	for _, size := range []int{8, 20, 400} {
		for n := 1; n <= api.MaxSteps; n++ {
			d := formatted(t, size)
			x := opened(t, d)
			for i := 0; x.Submit(1+i*389%api.MaxId, steps(n, "many")) == nil; i++ {
			}
			want := plain.All(x, api.MaxId)
			for range 2 {
				y := opened(t, d)
				tells(t, "P4: another engine", y, want...)
				for _, s := range want {
					if s != begun(s.Id, n) {
						t.Errorf("P4: Open finds %v", s)
					}
					is(t, "P4: the same saga", y.Submit(s.Id, steps(n, "many")), api.OK)
				}
				d = d.After(nil)
			}
		}
	}
}

// What waits to be flushed is found, and is gone behind a failure of power.
func TestP4OpenFindsASagaThatWaits(t *testing.T) {
	d := formatted(t, 20)
	x := opened(t, d)
	submit(t, x, 1, steps(1, "sure"))
	d.Bad(1, 1)
	is(t, "P5: Submit, its Flush fails", x.Submit(2, steps(2, "waits")), api.ErrIO)
	if d.Pending() != 1 {
		t.Fatalf("%d writes wait", d.Pending())
	}
	y := opened(t, d)
	tells(t, "P4: a saga waits", y, begun(1, 1), begun(2, 2))
	is(t, "P5: the saga that waits", y.Submit(2, steps(2, "waits")), api.OK)
	tells(t, "P4: behind a failure of power", opened(t, d.After(nil)), begun(1, 1))
	submit(t, y, 3, steps(1, "next"))
	tells(t, "P5: behind the next one", opened(t, d.After(nil)), begun(1, 1), begun(2, 2), begun(3, 1))
}

func TestP4OpenOfSagasWritesNothing(t *testing.T) {
	d := filled(t, 20)
	was, writes := d.Bytes(), d.Writes()
	for range 3 {
		opened(t, d)
	}
	torn := formatted(t, 20)
	x := opened(t, torn)
	torn.Off(3)
	is(t, "P8: cut off", x.Submit(1, steps(6, "torn")), api.ErrIO)
	torn = torn.After([]int{7})
	half := torn.Bytes()
	opened(t, torn)
	if d.Bytes() != was || d.Writes() != writes || torn.Bytes() != half || torn.Writes() != 0 {
		t.Error("P4: Open writes")
	}
}

// anything is a device with a journal's head, and behind it records of all kinds, whole or not.
func anything(t *testing.T, next func(below int) int) *api.Disk {
	t.Helper()
	d := formatted(t, 12)
	for at := range next(8) {
		var b record.Block
		switch kind := next(6); {
		case kind > 2 && at > 0:
			b = record.Move{Id: 1 + next(2), Reply: next(3)}.Block()
		case kind > 0:
			saga, err := record.NewSaga(1+next(2), steps(1+next(3), "x"))
			is(t, "a saga", err, api.OK)
			b = saga.Block()
		}
		if next(8) == 0 {
			b[next(api.Block)] = byte(next(256))
		}
		_ = d.Write(1+at, b[:])
	}
	return d
}

// stands: is that how a saga may stand that was just opened?
func stands(s api.Status) bool {
	if s.Tries != 0 || s.Due != 0 || s.Id < 1 || s.Id > api.MaxId || s.Steps < 1 || s.Steps > api.MaxSteps {
		return false
	}
	switch s.State {
	case api.Running:
		return s.Step >= 1 && s.Step <= s.Steps
	case api.Undoing:
		return s.Step >= 1 && s.Step < s.Steps
	case api.Committed, api.Aborted:
		return s.Step == 0
	}
	return false
}

// What stands on a device may be anything: Open finds sagas that may be, or no journal; and those come to their ends.
func TestP1OpenOfAnything(t *testing.T) {
	next := pattern(1)
	moved := 0
	for range 6000 {
		d := anything(t, next)
		x, err := sagas.Open(d, 1, refuses(2).ask)
		if err != nil {
			is(t, "P4: Open of anything", err, api.ErrCorrupt)
			continue
		}
		last := 0
		for s := range x.All() {
			if !stands(s) || s.Id <= last {
				t.Fatalf("P4: Open of anything finds %v", s)
			}
			if s != begun(s.Id, s.Steps) {
				moved++
			}
			last = s.Id
		}
		for id := range 10 {
			_ = x.Submit(id, steps(1, "y"))
			is(t, "P6: Tick on anything", x.Tick(), api.OK)
		}
		for s := range x.All() {
			if s.State < api.Committed {
				t.Errorf("P9: on anything %v does not come to its end", s)
			}
		}
	}
	if moved < 100 {
		t.Errorf("only %d sagas that have moved", moved)
	}
}

// A move that cannot be is no journal of ours.
func TestP4MovesThatCannotBe(t *testing.T) {
	one, err := record.NewSaga(1, steps(2, "one"))
	is(t, "a saga", err, api.OK)
	done, later, never := record.Move{Id: 1, Reply: api.Done}.Block(), record.Move{Id: 1, Reply: api.Later}.Block(), record.Move{Id: 1, Reply: api.Never}.Block()
	for name, c := range map[string]struct {
		l    []record.Block
		want api.Errno
	}{
		"done":                    {[]record.Block{one.Block(), done, done}, api.OK},
		"refused":                 {[]record.Block{one.Block(), done, never, done}, api.OK},
		"no saga":                 {[]record.Block{done}, api.ErrCorrupt},
		"another saga":            {[]record.Block{one.Block(), record.Move{Id: 2}.Block()}, api.ErrCorrupt},
		"ahead of its saga":       {[]record.Block{done, one.Block()}, api.ErrCorrupt},
		"a reply that moves not":  {[]record.Block{one.Block(), later}, api.ErrCorrupt},
		"done behind the end":     {[]record.Block{one.Block(), done, done, done}, api.ErrCorrupt},
		"refused behind the end":  {[]record.Block{one.Block(), done, done, never}, api.ErrCorrupt},
		"taking back is refused":  {[]record.Block{one.Block(), done, never, never}, api.ErrCorrupt},
		"done behind the refusal": {[]record.Block{one.Block(), never, done}, api.ErrCorrupt},
	} {
		d := formatted(t, 8)
		for i, b := range c.l {
			if err := d.Write(1+i, b[:]); err != nil {
				t.Fatal(err)
			}
		}
		found(t, "P4: Open: "+name, d, c.want)
	}
}
