package volume

import (
	"errors"
	"testing"

	"sagas/api"
	"sagas/record"
)

func made(t *testing.T, d api.Device) *Volume {
	t.Helper()
	v, err := New(d)
	if err != nil {
		t.Fatal(err)
	}
	return v
}

func TestNew(t *testing.T) {
	for n, want := range map[int]error{0: api.ErrSize, 7: api.ErrSize, 8: nil, 400: nil, 401: api.ErrSize} {
		v, err := New(api.NewDisk(n))
		if err != want || (v == nil) != (want != nil) {
			t.Errorf("New of %d blocks: %v, %v, want %v", n, v, err, want)
		}
		if v != nil && v.Blocks() != n {
			t.Errorf("a volume of %d blocks says that it has %d", n, v.Blocks())
		}
	}
}

func TestNewOfNone(t *testing.T) {
	for _, d := range []api.Device{nil, (*api.Disk)(nil)} {
		if v, err := New(d); v != nil || err != api.ErrSize {
			t.Errorf("New of no device: %v, %v", v, err)
		}
	}
}

// fickle has another number of blocks each time that it is asked.
type fickle struct {
	*api.Disk
	asked int
}

func (f *fickle) Blocks() int {
	f.asked++
	return 7 + f.asked
}

func TestBlocksStayAsTheyWereCounted(t *testing.T) {
	f := &fickle{Disk: api.NewDisk(400)}
	v := made(t, f)
	if v.Blocks() != 8 || v.Blocks() != 8 || f.asked != 1 {
		t.Errorf("%d blocks, %d times asked", v.Blocks(), f.asked)
	}
}

func TestLoadAndStore(t *testing.T) {
	d := api.NewDisk(8)
	v := made(t, d)
	err := Try(func() error {
		v.Store(3, record.Head(8))
		if v.Load(3) != record.Head(8) || v.Load(2) != (record.Block{}) {
			t.Error("what was stored is not loaded")
		}
		if d.Pending() != 1 {
			t.Errorf("%d writes wait, want 1", d.Pending())
		}
		v.Secure()
		return nil
	})
	if err != nil || d.Pending() != 0 {
		t.Errorf("Try: %v, %d writes wait", err, d.Pending())
	}
}

func TestTryStopsWhereTheDeviceTellsAnError(t *testing.T) {
	works := map[string]func(v *Volume){
		"load":   func(v *Volume) { v.Load(0) },
		"store":  func(v *Volume) { v.Store(0, record.Block{}) },
		"secure": func(v *Volume) { v.Secure() },
	}
	for name, work := range works {
		d := api.NewDisk(8)
		d.Bad(0, 1)
		v := made(t, d)
		behind := false
		err := Try(func() error {
			work(v)
			behind = true
			return nil
		})
		if !errors.Is(err, api.ErrIO) || behind {
			t.Errorf("%s: %v, went on: %v", name, err, behind)
		}
	}
}

func TestTryAnswers(t *testing.T) {
	works := []struct {
		name string
		work func() error
		want error
	}{
		{"nothing wrong", func() error { return nil }, nil},
		{"an error", func() error { return api.ErrCorrupt }, api.ErrCorrupt},
		{"a text that was thrown", func() error { panic("no device") }, api.ErrIO},
		{"an error that was thrown", func() error { panic(api.ErrSize) }, api.ErrIO},
		{"a fault that was thrown", func() error { panic(&api.Fault{Op: "x", E: api.OK}) }, api.ErrIO},
		{"a fault of the run", func() error { var l []int; l[len(l)] = 1; return nil }, api.ErrIO},
		{"nil thrown", func() error { panic(nil) }, api.ErrIO},
	}
	for _, w := range works {
		if err := Try(w.work); err != w.want {
			t.Errorf("%s: %v, want %v", w.name, err, w.want)
		}
	}
}
