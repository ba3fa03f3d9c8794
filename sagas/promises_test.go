package sagas_test

import (
	"bytes"
	"errors"
	"slices"
	"testing"
	"unsafe"

	"sagas/api"
	"sagas/plain"
	"sagas/sagas"
)

func TestP1TheErrorNamedFirst(t *testing.T) {
	dead := func(n int) *api.Disk {
		d := api.NewDisk(n)
		d.Off(0)
		return d
	}
	_, err := sagas.Open(dead(7), 0, nil)
	is(t, "P1: Open: no pause, no size, errors of the device", err, api.ErrConfig)
	_, err = sagas.Open(dead(20), 65, nil)
	is(t, "P1: Open: no pause, errors of the device", err, api.ErrConfig)
	found(t, "P1: Open: no size, errors of the device", dead(401), api.ErrSize)
	is(t, "P1: Format: no size, errors of the device", sagas.Format(dead(7)), api.ErrSize)
	is(t, "P1: Format: errors of the device", sagas.Format(dead(8)), api.ErrIO)
}

// An error says in which call something was wrong.
func TestP1ErrorsWrapWhatIsWrong(t *testing.T) {
	x := opened(t, formatted(t, 8))
	d := filled(t, 8)
	y := opened(t, d)
	d.Off(0)
	_, none := x.Status(1)
	_, config := sagas.Open(formatted(t, 8), 0, nil)
	_, size := sagas.Open(api.NewDisk(7), 1, nil)
	for op, l := range map[string][]error{
		"Format": {sagas.Format(api.NewDisk(7))},
		"Open":   {config, size},
		"Submit": {x.Submit(0, nil), x.Submit(1, steps(6, ""))},
		"Status": {none},
		"Tick":   {y.Tick(), y.Tick()},
	} {
		for _, err := range l {
			var f *api.Fault
			if !errors.As(err, &f) || f.Op != op {
				t.Errorf("an error of %s: %v", op, err)
			}
		}
	}
}

// What a device tells may be any error: of that the answer has nothing.
func TestP1AnyErrorOfTheDeviceIsErrIO(t *testing.T) {
	var none *api.Fault
	for _, told := range []error{api.OK, api.ErrSize, api.ErrNone, api.Errno(77), &api.Fault{Op: "x", E: api.OK}, none, loop{}} {
		for at := range 9 {
			d := &odd{Disk: formatted(t, 8)}
			x := always(api.Done).opens(t, d, 4)
			if at > 4 {
				submit(t, x, 1, steps(1, "a"))
			}
			if at > 6 {
				x = always(api.Done).opens(t, d, 4)
			}
			switch at {
			case 0:
				d.read = func(i int) ([]byte, error) { return nil, told }
				found(t, "P1: Open", d, api.ErrIO)
			case 1:
				d.write = func(i int, b []byte) error { return told }
				is(t, "P1: Format", sagas.Format(d), api.ErrIO)
			case 2:
				d.flush = func() error { return told }
				is(t, "P1: Format", sagas.Format(d), api.ErrIO)
			case 3:
				d.write = func(i int, b []byte) error { return told }
				is(t, "P1: Submit", x.Submit(1, steps(1, "a")), api.ErrIO)
			case 4:
				d.flush = func() error { return told }
				is(t, "P1: Submit", x.Submit(1, steps(1, "a")), api.ErrIO)
			case 5, 7:
				d.write = func(i int, b []byte) error { return told }
				is(t, "P1: Tick", x.Tick(), api.ErrIO)
			case 6, 8:
				d.flush = func() error { return told }
				is(t, "P1: Tick", x.Tick(), api.ErrIO)
			}
		}
	}
}

// loop is an error that wraps itself, and whose text cannot be had.
type loop struct{}

func (l loop) Error() string { panic("no text") }

func (l loop) Unwrap() error { return l }

func TestP1OddAnswersOfDevices(t *testing.T) {
	full, _ := formatted(t, 8).Read(0)
	reads := map[string]struct {
		b    []byte
		want api.Errno
	}{
		"nil":                {nil, api.ErrCorrupt},
		"no byte":            {[]byte{}, api.ErrCorrupt},
		"one byte":           {full[:1:1], api.ErrCorrupt},
		"a byte less":        {full[: api.Block-1 : api.Block-1], api.OK},
		"bytes behind a one": {append(full[:api.Block:api.Block], 1, 2, 3), api.OK},
	}
	for name, c := range reads {
		d := &odd{Disk: formatted(t, 8)}
		d.read = func(i int) ([]byte, error) {
			if i == 0 {
				return c.b, nil
			}
			return d.Disk.Read(i)
		}
		found(t, "P1: Open, a Read gives "+name, d, c.want)
	}
}

func TestP1NoBlockThatIsNotThere(t *testing.T) {
	for _, n := range []int{7, 8, 9, 400, 401} {
		d := &odd{Disk: api.NewDisk(n)}
		there := func(i int) {
			if i < 0 || i >= n {
				t.Errorf("P1: block %d of %d is asked for", i, n)
			}
		}
		d.read = func(i int) ([]byte, error) { there(i); return d.Disk.Read(i) }
		d.write = func(i int, b []byte) error { there(i); return d.Disk.Write(i, b) }
		_, _ = sagas.Open(d, 1, unasked(t))
		if sagas.Format(d) != nil {
			continue
		}
		for id := 1; id <= n; id++ {
			x := refuses(id%3).opens(t, d, 4)
			_ = x.Submit(id, steps(1+id%2, "fill"))
			is(t, "P6: Tick", x.Tick(), api.OK)
		}
	}
}

// A device that has fewer blocks each time that it is asked: the first answer holds.
func TestP1ADeviceThatShrinks(t *testing.T) {
	n := 20
	d := &odd{Disk: api.NewDisk(20), blocks: func() int { n--; return n + 1 }}
	format(t, d)
	if d.Writes() < 20 {
		t.Errorf("P3: %d writes to 20 blocks", d.Writes())
	}
}

func TestP1NothingIsThrown(t *testing.T) {
	for name, d := range map[string]api.Device{
		"none":                  nil,
		"a disk that is none":   (*api.Disk)(nil),
		"one without its count": &odd{blocks: func() int { panic("no count") }},
	} {
		is(t, "P1: Format of "+name, sagas.Format(d), api.ErrSize)
		found(t, "P1: Open of "+name, d, api.ErrSize)
	}
	d := &odd{Disk: formatted(t, 8)}
	d.read = func(i int) ([]byte, error) { panic("no read") }
	d.write = func(i int, b []byte) error { panic(api.ErrSize) }
	is(t, "P1: Format of a device that panics", sagas.Format(d), api.ErrIO)
	found(t, "P1: Open of a device that panics", d, api.ErrIO)
	d.read = nil
	x := opened(t, d)
	is(t, "P1: Submit to a device that panics", x.Submit(1, steps(1, "a")), api.ErrIO)
	is(t, "P8: behind it", x.Submit(1, steps(1, "a")), api.ErrFailed)
	for at := range 4 {
		disk := filled(t, 8)
		d := &odd{Disk: disk}
		x := always(api.Done).opens(t, d, 4)
		made := 0
		throws := func(err error) error {
			made++
			if made > at {
				panic(api.OK)
			}
			return err
		}
		d.write = func(i int, b []byte) error { return throws(disk.Write(i, b)) }
		d.flush = func() error { return throws(disk.Flush()) }
		is(t, "P1: Tick on a device that panics", x.Tick(), api.ErrIO)
		failed(t, "P8: behind it", x)
	}
}

func TestP1AnyPartnerWillDo(t *testing.T) {
	d := formatted(t, 8)
	if x, err := sagas.Open(d, 1, nil); x == nil || err != nil {
		t.Errorf("P4: Open without a partner: %v", err)
	}
	if x, err := plain.Fails(d, 1); x == nil || err != nil {
		t.Errorf("P4: Open with a partner that panics: %v", err)
	}
}

// A device may hand out its own memory.
func TestP2WhatIsReadIsNotWrittenInto(t *testing.T) {
	var own, was [][]byte
	full := filled(t, 20)
	for i := range 20 {
		b, _ := full.Read(i)
		own, was = append(own, b), append(was, bytes.Clone(b))
	}
	d := &odd{Disk: full, read: func(i int) ([]byte, error) { return own[i], nil }}
	x := always(api.Done).opens(t, d, 4)
	_ = x.Submit(7, steps(1, "new"))
	is(t, "P6: Tick", x.Tick(), api.OK)
	format(t, d)
	for i := range own {
		if !bytes.Equal(own[i], was[i]) {
			t.Errorf("P2: what a device handed out of block %d is written into", i)
		}
	}
}

// A device may keep what it is handed, and may write into it, and behind it.
func TestP2WhatIsWrittenIsTheDevicesOwn(t *testing.T) {
	d := &odd{Disk: scrawl(t, 20)}
	var kept, was [][]byte
	d.write = func(i int, b []byte) error {
		kept, was = append(kept, b), append(was, bytes.Clone(b))
		return d.Disk.Write(i, b)
	}
	format(t, d)
	x := always(api.Done).opens(t, d, 4)
	submit(t, x, 1, steps(6, "kept"))
	for range 6 {
		is(t, "P6: Tick", x.Tick(), api.OK)
	}
	for i := range kept {
		if !bytes.Equal(kept[i], was[i]) {
			t.Errorf("P2: what was handed to write %d is written into later", i)
		}
	}
	d.write = func(i int, b []byte) error {
		err := d.Disk.Write(i, b)
		_ = append(b, 99)
		for j := range b {
			b[j] = 99
		}
		return err
	}
	format(t, d)
	if d.Bytes() != formatted(t, 20).Bytes() {
		t.Error("P2: what a device writes into what it was handed is laid down")
	}
	x = always(api.Done).opens(t, d, 4)
	submit(t, x, 1, steps(6, "kept"))
	is(t, "P6: Tick", x.Tick(), api.OK)
	for _, y := range []*sagas.Engine{x, opened(t, d)} {
		holds(t, "P2: behind a device that writes into what it is handed", y, 1, steps(6, "kept"))
		tells(t, "P2: behind a device that writes into what it is handed", y, api.Status{Id: 1, State: api.Running, Step: 2, Steps: 6})
	}
}

func TestP2StepsAreNotWrittenIntoOrKept(t *testing.T) {
	x := opened(t, formatted(t, 60))
	for n := 1; n <= api.MaxSteps; n++ {
		l := steps(api.MaxSteps+1, "own")
		submit(t, x, n, l[:n])
		if !slices.Equal(l, steps(api.MaxSteps+1, "own")) {
			t.Errorf("P2: the list that was handed in reads %v", l)
		}
		clear(l)
		holds(t, "P2: the list is changed behind Submit", x, n, steps(n, "own"))
		is(t, "P5: the list as it is now", x.Submit(n, l[:n]), api.ErrUsed)
	}
}

// Nor is what stands behind a text: it may be a piece of a greater one.
func TestP2TextsAreNotKept(t *testing.T) {
	x := opened(t, formatted(t, 40))
	text := []byte("12345678abcdefgh")
	do, undo := unsafe.String(&text[0], 8), unsafe.String(&text[8], 8)
	submit(t, x, 1, []api.Step{{Do: do, Undo: undo}})
	clear(text)
	holds(t, "P2: the texts are changed behind Submit", x, 1, []api.Step{{Do: "12345678", Undo: "abcdefgh"}})
}

func TestP2ThePartnerIsNotAsked(t *testing.T) {
	d := formatted(t, 20)
	p := plain.NewPartner([]int{0, 3, 5})
	for id := 1; id < 4; id++ {
		x, err := plain.Open(d, 4, p)
		if err != nil {
			t.Fatalf("P4: Open: %v", err)
		}
		submit(t, x, id, steps(2, "a"))
		submit(t, x, id, steps(2, "a"))
		plain.All(x, 10)
		if _, err := x.Status(id); err != nil {
			t.Errorf("P7: Status: %v", err)
		}
	}
	if len(p.Log) != 0 {
		t.Errorf("P2: the partner is asked: %v", p.Log)
	}
}

// What is answered hangs on the device alone, not on what was formatted or opened ahead of it.
func TestP2DevicesDoNotKnowEachOther(t *testing.T) {
	one := formatted(t, 20)
	found(t, "P2: Open of a journal", one, api.OK)
	found(t, "P2: Open of noughts, behind it", api.NewDisk(20), api.ErrCorrupt)
	found(t, "P2: Open of the journal again", one, api.OK)
	if one.Bytes() != formatted(t, 20).Bytes() {
		t.Error("P2: two Formats lay down two things")
	}
	x, y := opened(t, one), opened(t, formatted(t, 20))
	submit(t, x, 1, steps(1, "x"))
	submit(t, y, 1, steps(2, "y"))
	tells(t, "P2: one of two engines", x, begun(1, 1))
	tells(t, "P2: the other of two engines", y, begun(1, 2))
}
