package journal

import (
	"errors"
	"testing"

	"sagas/api"
	"sagas/record"
	"sagas/volume"
)

func on(t *testing.T, d api.Device) *volume.Volume {
	t.Helper()
	v, err := volume.New(d)
	if err != nil {
		t.Fatal(err)
	}
	return v
}

func TestLayAndFind(t *testing.T) {
	d := api.NewDisk(20)
	if err := Find(on(t, d)); err != api.ErrCorrupt {
		t.Errorf("Find on noughts: %v", err)
	}
	if err := Lay(on(t, d)); err != nil || d.Pending() != 0 {
		t.Errorf("Lay: %v, %d writes wait", err, d.Pending())
	}
	if err := Find(on(t, d)); err != nil {
		t.Errorf("Find behind Lay: %v", err)
	}
}

// A head in which anything is wrong is none.
func TestFindWithAWrongHead(t *testing.T) {
	for at := range api.Block {
		d := api.NewDisk(20)
		b := record.Head(20)
		b[at]++
		if err := d.Write(headAt, b[:]); err != nil {
			t.Fatal(err)
		}
		if err := Find(on(t, d)); err != api.ErrCorrupt {
			t.Errorf("Find, byte %d of the head is wrong: %v", at, err)
		}
	}
}

func TestErrorsOfTheDevice(t *testing.T) {
	d := api.NewDisk(20)
	d.Bad(0, 1)
	if err := Lay(on(t, d)); !errors.Is(err, api.ErrIO) {
		t.Errorf("Lay: %v", err)
	}
	d.Bad(0, 1)
	if err := Find(on(t, d)); !errors.Is(err, api.ErrIO) {
		t.Errorf("Find: %v", err)
	}
}
