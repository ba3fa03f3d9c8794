package sagas_test

import (
	"math"
	"testing"

	"sagas/api"
	"sagas/plain"
	"sagas/record"
	"sagas/sagas"
)

func TestP4OpenWantsAPause(t *testing.T) {
	d := formatted(t, 20)
	pauses := map[int]api.Errno{math.MinInt: api.ErrConfig, -1: api.ErrConfig, 0: api.ErrConfig, 1: api.OK, 2: api.OK, 63: api.OK, 64: api.OK, 65: api.ErrConfig, math.MaxInt: api.ErrConfig}
	for pause, want := range pauses {
		x, err := sagas.Open(d, pause, unasked(t))
		is(t, "P4: Open", err, want)
		if (x == nil) != (want != api.OK) {
			t.Errorf("P1: Open with the pause %d: is there an engine? %v", pause, x != nil)
		}
	}
}

func TestP4OpenWantsAFitSize(t *testing.T) {
	sizes := map[int]api.Errno{0: api.ErrSize, 7: api.ErrSize, 8: api.ErrCorrupt, 400: api.ErrCorrupt, 401: api.ErrSize, 999: api.ErrSize}
	for n, want := range sizes {
		found(t, "P4: Open of noughts", api.NewDisk(n), want)
	}
	for _, n := range []int{-1, math.MinInt, math.MaxInt} {
		d := &odd{Disk: formatted(t, 20), blocks: func() int { return n }}
		found(t, "P4: Open", d, api.ErrSize)
	}
}

func TestP4OpenFindsNoJournal(t *testing.T) {
	for _, n := range []int{8, 20, 400} {
		found(t, "P4: Open of noughts", api.NewDisk(n), api.ErrCorrupt)
		found(t, "P4: Open of a scrawl", scrawl(t, n), api.ErrCorrupt)
	}
	d := formatted(t, 20)
	d.Write(0, nil)
	found(t, "P4: Open of a journal that has lost its head", d, api.ErrCorrupt)
	other := record.Head(21)
	d.Write(0, other[:])
	found(t, "P4: Open of a journal of another size", d, api.ErrCorrupt)
}

func TestP4OpenFindsAnEmptyJournal(t *testing.T) {
	for _, n := range []int{8, 20, 400} {
		d := formatted(t, n)
		for _, pause := range []int{1, 64} {
			x, err := plain.Open(d, pause, plain.NewPartner(nil))
			is(t, "P4: Open", err, api.OK)
			if x == nil {
				t.Fatal("P4: no engine")
			}
			if l := plain.All(x, 1); len(l) != 0 {
				t.Errorf("P3, P4: a saga in an empty journal: %v", l)
			}
		}
	}
}

// What was written last is read, though it is not sure.
func TestP4OpenReadsWhatWaits(t *testing.T) {
	d := api.NewDisk(8)
	head := record.Head(8)
	d.Write(0, head[:])
	found(t, "P4: Open of a head that is not sure", d, api.OK)
	found(t, "P4: Open behind a failure of power", d.After(nil), api.ErrCorrupt)
}

func TestP4OpenWritesAndFlushesNothing(t *testing.T) {
	for name, disk := range map[string]*api.Disk{"noughts": api.NewDisk(20), "a scrawl": scrawl(t, 20), "a journal": formatted(t, 20)} {
		d := &odd{Disk: disk}
		d.write = func(i int, b []byte) error { t.Errorf("P4: Open of %s writes block %d", name, i); return nil }
		d.flush = func() error { t.Errorf("P4: Open of %s flushes", name); return nil }
		for at := -1; at < 25; at++ {
			if at >= 0 {
				disk.Bad(at, 1)
			}
			for _, pause := range []int{0, 1} {
				_, _ = sagas.Open(d, pause, unasked(t))
			}
		}
	}
}

func TestP4TheDeviceTellsErrors(t *testing.T) {
	for name, c := range map[string]struct {
		d    *api.Disk
		want api.Errno
	}{"noughts": {api.NewDisk(20), api.ErrCorrupt}, "a journal": {formatted(t, 20), api.OK}} {
		for at, done := 0, false; !done; at++ {
			c.d.Bad(at, 1)
			told := c.d.Told()
			x, err := sagas.Open(c.d, 1, unasked(t))
			done = c.d.Told() == told
			if done {
				is(t, "P4: Open of "+name, err, c.want)
			} else if e := plain.Told(err); e != api.ErrIO && e != c.want {
				t.Errorf("P1: Open of %s with an error: %v", name, err)
			}
			if (x == nil) != (err != nil) {
				t.Errorf("P1: Open of %s: is there an engine? %v, beside %v", name, x != nil, err)
			}
		}
	}
}
