package sagas_test

import (
	"bytes"
	"testing"

	"sagas/api"
	"sagas/plain"
	"sagas/sagas"
)

func TestP1TheErrorNamedFirst(t *testing.T) {
	dead := func(n int) *api.Disk {
		d := api.NewDisk(n)
		d.Off(0)
		return d
	}
	_, err := sagas.Open(dead(7), 0, nil)
	is(t, "P1: Open: no pause, no size, errors of the device", err, api.ErrConfig)
	_, err = sagas.Open(dead(20), 65, nil)
	is(t, "P1: Open: no pause, errors of the device", err, api.ErrConfig)
	found(t, "P1: Open: no size, errors of the device", dead(401), api.ErrSize)
	is(t, "P1: Format: no size, errors of the device", sagas.Format(dead(7)), api.ErrSize)
	is(t, "P1: Format: errors of the device", sagas.Format(dead(8)), api.ErrIO)
}

// What a device tells may be any error: of that the answer has nothing.
func TestP1AnyErrorOfTheDeviceIsErrIO(t *testing.T) {
	var none *api.Fault
	for _, told := range []error{api.OK, api.ErrSize, api.ErrNone, api.Errno(77), &api.Fault{Op: "x", E: api.OK}, none, loop{}} {
		for at := range 3 {
			d := &odd{Disk: formatted(t, 8)}
			switch at {
			case 0:
				d.read = func(i int) ([]byte, error) { return nil, told }
				found(t, "P1: Open", d, api.ErrIO)
			case 1:
				d.write = func(i int, b []byte) error { return told }
				is(t, "P1: Format", sagas.Format(d), api.ErrIO)
			case 2:
				d.flush = func() error { return told }
				is(t, "P1: Format", sagas.Format(d), api.ErrIO)
			}
		}
	}
}

// loop is an error that wraps itself, and whose text cannot be had.
type loop struct{}

func (l loop) Error() string { panic("no text") }

func (l loop) Unwrap() error { return l }

func TestP1OddAnswersOfDevices(t *testing.T) {
	full, _ := formatted(t, 8).Read(0)
	reads := map[string]struct {
		b    []byte
		want api.Errno
	}{
		"nil":                {nil, api.ErrCorrupt},
		"no byte":            {[]byte{}, api.ErrCorrupt},
		"one byte":           {full[:1:1], api.ErrCorrupt},
		"a byte less":        {full[: api.Block-1 : api.Block-1], api.OK},
		"bytes behind a one": {append(full[:api.Block:api.Block], 1, 2, 3), api.OK},
	}
	for name, c := range reads {
		d := &odd{Disk: formatted(t, 8), read: func(i int) ([]byte, error) { return c.b, nil }}
		found(t, "P1: Open, a Read gives "+name, d, c.want)
	}
}

func TestP1NoBlockThatIsNotThere(t *testing.T) {
	for _, n := range []int{7, 8, 9, 400, 401} {
		d := &odd{Disk: api.NewDisk(n)}
		there := func(i int) {
			if i < 0 || i >= n {
				t.Errorf("P1: block %d of %d is asked for", i, n)
			}
		}
		d.read = func(i int) ([]byte, error) { there(i); return d.Disk.Read(i) }
		d.write = func(i int, b []byte) error { there(i); return d.Disk.Write(i, b) }
		_, _ = sagas.Open(d, 1, unasked(t))
		_ = sagas.Format(d)
		_, _ = sagas.Open(d, 1, unasked(t))
	}
}

// A device that has fewer blocks each time that it is asked: the first answer holds.
func TestP1ADeviceThatShrinks(t *testing.T) {
	n := 20
	d := &odd{Disk: api.NewDisk(20), blocks: func() int { n--; return n + 1 }}
	format(t, d)
	if d.Writes() < 20 {
		t.Errorf("P3: %d writes to 20 blocks", d.Writes())
	}
}

func TestP1NothingIsThrown(t *testing.T) {
	for name, d := range map[string]api.Device{
		"none":                  nil,
		"a disk that is none":   (*api.Disk)(nil),
		"one without its count": &odd{blocks: func() int { panic("no count") }},
	} {
		is(t, "P1: Format of "+name, sagas.Format(d), api.ErrSize)
		found(t, "P1: Open of "+name, d, api.ErrSize)
	}
	d := &odd{Disk: formatted(t, 8)}
	d.read = func(i int) ([]byte, error) { panic("no read") }
	d.write = func(i int, b []byte) error { panic(api.ErrSize) }
	is(t, "P1: Format of a device that panics", sagas.Format(d), api.ErrIO)
	found(t, "P1: Open of a device that panics", d, api.ErrIO)
}

func TestP1AnyPartnerWillDo(t *testing.T) {
	d := formatted(t, 8)
	if x, err := sagas.Open(d, 1, nil); x == nil || err != nil {
		t.Errorf("P4: Open without a partner: %v", err)
	}
	if x, err := plain.Fails(d, 1); x == nil || err != nil {
		t.Errorf("P4: Open with a partner that panics: %v", err)
	}
}

// A device may hand out its own memory.
func TestP2WhatIsReadIsNotWrittenInto(t *testing.T) {
	own, _ := formatted(t, 8).Read(0)
	was := bytes.Clone(own)
	d := &odd{Disk: formatted(t, 8), read: func(i int) ([]byte, error) { return own, nil }}
	found(t, "P2: Open", d, api.OK)
	format(t, d)
	if !bytes.Equal(own, was) {
		t.Error("P2: what a device handed out is written into")
	}
}

// A device may keep what it is handed, and may write into it, and behind it.
func TestP2WhatIsWrittenIsTheDevicesOwn(t *testing.T) {
	d := &odd{Disk: scrawl(t, 20)}
	var kept, was [][]byte
	d.write = func(i int, b []byte) error {
		kept, was = append(kept, b), append(was, bytes.Clone(b))
		return d.Disk.Write(i, b)
	}
	format(t, d)
	for i := range kept {
		if !bytes.Equal(kept[i], was[i]) {
			t.Errorf("P2: what was handed to write %d is written into later", i)
		}
	}
	d.write = func(i int, b []byte) error {
		err := d.Disk.Write(i, b)
		_ = append(b, 99)
		for j := range b {
			b[j] = 99
		}
		return err
	}
	format(t, d)
	if d.Bytes() != formatted(t, 20).Bytes() {
		t.Error("P2: what a device writes into what it was handed is laid down")
	}
}

func TestP2ThePartnerIsNotAsked(t *testing.T) {
	d := formatted(t, 20)
	p := plain.NewPartner([]int{0, 3, 5})
	for range 3 {
		if _, err := plain.Open(d, 4, p); err != nil {
			t.Errorf("P4: Open: %v", err)
		}
	}
	if len(p.Log) != 0 {
		t.Errorf("P2: the partner is asked by Open: %v", p.Log)
	}
}

// What is answered hangs on the device alone, not on what was formatted or opened ahead of it.
func TestP2DevicesDoNotKnowEachOther(t *testing.T) {
	one := formatted(t, 20)
	found(t, "P2: Open of a journal", one, api.OK)
	found(t, "P2: Open of noughts, behind it", api.NewDisk(20), api.ErrCorrupt)
	found(t, "P2: Open of the journal again", one, api.OK)
	if one.Bytes() != formatted(t, 20).Bytes() {
		t.Error("P2: two Formats lay down two things")
	}
}
