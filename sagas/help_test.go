package sagas_test

import (
	"errors"
	"testing"

	"sagas/api"
	"sagas/plain"
	"sagas/record"
	"sagas/sagas"
)

// is holds an error against the one that is wanted: no other Errno may be found in it.
func is(t *testing.T, what string, err error, want api.Errno) {
	t.Helper()
	if plain.Told(err) != want {
		t.Errorf("%s: %v, want %v", what, err, want)
	}
	for e := api.OK; e <= api.ErrNone; e++ {
		if errors.Is(err, e) != (e == want && want != api.OK) {
			t.Errorf("%s: is %v found in %v? want %v alone", what, e, err, want)
		}
	}
}

// format formats a device, and wants no error.
func format(t *testing.T, d api.Device) {
	t.Helper()
	is(t, "Format", sagas.Format(d), api.OK)
}

// formatted is a disk with an empty journal.
func formatted(t *testing.T, n int) *api.Disk {
	t.Helper()
	d := api.NewDisk(n)
	format(t, d)
	return d
}

// found opens a device, and holds the answer against the error that is wanted: with an error there is no engine.
func found(t *testing.T, what string, d api.Device, want api.Errno) {
	t.Helper()
	x, err := sagas.Open(d, 1, unasked(t))
	is(t, what, err, want)
	if (x == nil) != (want != api.OK) {
		t.Errorf("%s: is there an engine? %v, beside the error %v", what, x != nil, err)
	}
}

// unasked is a partner that nobody may ask.
func unasked(t *testing.T) func(c api.Call) int {
	return func(c api.Call) int {
		t.Errorf("P2: the partner is asked for %v", c)
		return api.Done
	}
}

// scrawl is a disk full of bytes that are no journal: the same ones each time.
func scrawl(t *testing.T, n int) *api.Disk {
	t.Helper()
	d := api.NewDisk(n)
	fill(t, d, 0)
	return d
}

// used is a disk with a journal and, behind its head, bytes that a Format has to take away.
func used(t *testing.T, n int) *api.Disk {
	t.Helper()
	d := formatted(t, n)
	fill(t, d, 1)
	return d
}

// fill writes over all blocks from one on.
func fill(t *testing.T, d *api.Disk, from int) {
	t.Helper()
	next := pattern(7)
	for i := from; i < d.Blocks(); i++ {
		b := make([]byte, api.Block)
		for j := range b {
			b[j] = byte(next(255) + 1)
		}
		if err := d.Write(i, b); err != nil {
			t.Fatal(err)
		}
	}
	if err := d.Flush(); err != nil {
		t.Fatal(err)
	}
}

// pattern gives numbers below a bound that follow no plain rule, but are the same in each run.
func pattern(seed uint64) func(below int) int {
	return func(below int) int {
		seed = seed*6364136223846793005 + 1442695040888963407
		return int(seed>>33) % below
	}
}

// choices are lists for Disk.After: all of them, for at most two writes; for more of them none, all, each sector alone, all but each sector, and some in disorder.
func choices(writes int) [][]int {
	const sectors = api.Block / api.Sector
	if writes <= 2 {
		var out [][]int
		for k := range 1 << (sectors * writes) {
			out = append(out, []int{k % (1 << sectors), k >> sectors})
		}
		return out
	}
	all := func(keep int) []int {
		l := make([]int, writes)
		for j := range l {
			l[j] = keep
		}
		return l
	}
	const whole = 1<<sectors - 1
	out := [][]int{all(0), all(whole)}
	for j := range writes {
		for s := range sectors {
			alone, without := all(0), all(whole)
			alone[j] ^= 1 << s
			without[j] ^= 1 << s
			out = append(out, alone, without)
		}
	}
	next := pattern(uint64(writes))
	for range 50 {
		l := all(0)
		for j := range l {
			l[j] = next(whole + 1)
		}
		out = append(out, l)
	}
	return out
}

// hasHead: does what is sure on a disk begin with a journal's head?
func hasHead(d *api.Disk) bool {
	head := record.Head(d.Blocks())
	return d.Bytes()[:api.Block] == string(head[:])
}

// odd is a device that answers as a test says; where it says nothing, as its disk does.
type odd struct {
	*api.Disk
	blocks func() int
	read   func(i int) ([]byte, error)
	write  func(i int, b []byte) error
	flush  func() error
}

func (o *odd) Blocks() int {
	if o.blocks == nil {
		return o.Disk.Blocks()
	}
	return o.blocks()
}

func (o *odd) Read(i int) ([]byte, error) {
	if o.read == nil {
		return o.Disk.Read(i)
	}
	return o.read(i)
}

func (o *odd) Write(i int, b []byte) error {
	if o.write == nil {
		return o.Disk.Write(i, b)
	}
	return o.write(i, b)
}

func (o *odd) Flush() error {
	if o.flush == nil {
		return o.Disk.Flush()
	}
	return o.flush()
}
