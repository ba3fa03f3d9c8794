package sagas_test

import (
	"errors"
	"slices"
	"testing"

	"sagas/api"
	"sagas/plain"
	"sagas/record"
	"sagas/sagas"
)

// is holds an error against the one that is wanted: no other Errno may be found in it.
func is(t *testing.T, what string, err error, want api.Errno) {
	t.Helper()
	if plain.Told(err) != want {
		t.Errorf("%s: %v, want %v", what, err, want)
	}
	for e := api.OK; e <= api.ErrNone; e++ {
		if errors.Is(err, e) != (e == want && want != api.OK) {
			t.Errorf("%s: is %v found in %v? want %v alone", what, e, err, want)
		}
	}
}

// format formats a device, and wants no error.
func format(t *testing.T, d api.Device) {
	t.Helper()
	is(t, "Format", sagas.Format(d), api.OK)
}

// formatted is a disk with an empty journal.
func formatted(t *testing.T, n int) *api.Disk {
	t.Helper()
	d := api.NewDisk(n)
	format(t, d)
	return d
}

// found opens a device, and holds the answer against the error that is wanted: with an error there is no engine.
func found(t *testing.T, what string, d api.Device, want api.Errno) {
	t.Helper()
	x, err := sagas.Open(d, 1, unasked(t))
	is(t, what, err, want)
	if (x == nil) != (want != api.OK) {
		t.Errorf("%s: is there an engine? %v, beside the error %v", what, x != nil, err)
	}
}

// opened is an engine on a device with a journal.
func opened(t *testing.T, d api.Device) *sagas.Engine {
	t.Helper()
	x, err := sagas.Open(d, 4, unasked(t))
	if err != nil || x == nil {
		t.Fatalf("P4: Open: %v", err)
	}
	return x
}

// submit submits a saga, and wants no error.
func submit(t *testing.T, x *sagas.Engine, id int, l []api.Step) {
	t.Helper()
	is(t, "P5: Submit", x.Submit(id, l), api.OK)
}

// steps are n steps that have as much data as they may, the tag's in each of them, and differ from each other.
func steps(n int, tag string) []api.Step {
	l := make([]api.Step, n)
	for i := range l {
		l[i] = api.Step{Do: padded(tag, byte('1'+i)), Undo: padded(tag, byte('A'+i))}
	}
	return l
}

// padded makes a tag as long as data may be, with a byte at its end.
func padded(tag string, last byte) string {
	return (tag + "........")[:api.MaxData-1] + string(rune(last))
}

// begun is the status of a saga of n steps that was submitted, and no more.
func begun(id, n int) api.Status {
	return api.Status{Id: id, State: api.Running, Step: 1, Steps: n}
}

// tells holds all that an engine tells against what is wanted, by rising ids.
func tells(t *testing.T, what string, x *sagas.Engine, want ...api.Status) {
	t.Helper()
	if got := plain.All(x, api.MaxId+1); !slices.Equal(got, want) {
		t.Errorf("%s: All tells %v, want %v", what, got, want)
	}
	for _, w := range want {
		got, err := x.Status(w.Id)
		is(t, what+": Status", err, api.OK)
		if got != w {
			t.Errorf("%s: Status tells %v, want %v", what, got, w)
		}
	}
}

// unasked is a partner that nobody may ask.
func unasked(t *testing.T) func(c api.Call) int {
	return func(c api.Call) int {
		t.Errorf("P2: the partner is asked for %v", c)
		return api.Done
	}
}

// scrawl is a disk full of bytes that are no journal: the same ones each time.
func scrawl(t *testing.T, n int) *api.Disk {
	t.Helper()
	d := api.NewDisk(n)
	fill(t, d, 0)
	return d
}

// spoilt is a disk with the head of a journal and, behind it, bytes that are none.
func spoilt(t *testing.T, n int) *api.Disk {
	t.Helper()
	d := formatted(t, n)
	fill(t, d, 1)
	return d
}

// filled is a disk with a journal in which no saga has room any more; their ids go down from 1,000.
func filled(t *testing.T, n int) *api.Disk {
	t.Helper()
	d := formatted(t, n)
	x := opened(t, d)
	for id, size := api.MaxId, api.MaxSteps; size > 0; {
		if err := x.Submit(id, steps(size, "full")); err == nil {
			id--
		} else {
			is(t, "P5: Submit to a full device", err, api.ErrFull)
			size--
		}
	}
	return d
}

// fill writes over all blocks from one on.
func fill(t *testing.T, d *api.Disk, from int) {
	t.Helper()
	next := pattern(7)
	for i := from; i < d.Blocks(); i++ {
		b := make([]byte, api.Block)
		for j := range b {
			b[j] = byte(next(255) + 1)
		}
		if err := d.Write(i, b); err != nil {
			t.Fatal(err)
		}
	}
	if err := d.Flush(); err != nil {
		t.Fatal(err)
	}
}

// pattern gives numbers below a bound that follow no plain rule, but are the same in each run.
func pattern(seed uint64) func(below int) int {
	return func(below int) int {
		seed = seed*6364136223846793005 + 1442695040888963407
		return int(seed>>33) % below
	}
}

// choices are lists for Disk.After: all of them, for at most two writes; for more of them none, all, each sector alone, all but each sector, and some in disorder.
func choices(writes int) [][]int {
	const sectors = api.Block / api.Sector
	if writes <= 2 {
		var out [][]int
		for k := range 1 << (sectors * writes) {
			out = append(out, []int{k % (1 << sectors), k >> sectors})
		}
		return out
	}
	all := func(keep int) []int {
		l := make([]int, writes)
		for j := range l {
			l[j] = keep
		}
		return l
	}
	const whole = 1<<sectors - 1
	out := [][]int{all(0), all(whole)}
	for j := range writes {
		for s := range sectors {
			alone, without := all(0), all(whole)
			alone[j] ^= 1 << s
			without[j] ^= 1 << s
			out = append(out, alone, without)
		}
	}
	next := pattern(uint64(writes))
	for range 50 {
		l := all(0)
		for j := range l {
			l[j] = next(whole + 1)
		}
		out = append(out, l)
	}
	return out
}

// hasHead: does what is sure on a disk begin with a journal's head?
func hasHead(d *api.Disk) bool {
	head := record.Head(d.Blocks())
	return d.Bytes()[:api.Block] == string(head[:])
}

// odd is a device that answers as a test says; where it says nothing, as its disk does.
type odd struct {
	*api.Disk
	blocks func() int
	read   func(i int) ([]byte, error)
	write  func(i int, b []byte) error
	flush  func() error
}

func (o *odd) Blocks() int {
	if o.blocks == nil {
		return o.Disk.Blocks()
	}
	return o.blocks()
}

func (o *odd) Read(i int) ([]byte, error) {
	if o.read == nil {
		return o.Disk.Read(i)
	}
	return o.read(i)
}

func (o *odd) Write(i int, b []byte) error {
	if o.write == nil {
		return o.Disk.Write(i, b)
	}
	return o.write(i, b)
}

func (o *odd) Flush() error {
	if o.flush == nil {
		return o.Disk.Flush()
	}
	return o.flush()
}

// liar is a device that does all that it is called for, but tells an error of it behind so many Writes and Flushes, once; did it?
func liar(d *api.Disk, at int) (*odd, func() bool) {
	o := &odd{Disk: d}
	made := 0
	tell := func(err error) error {
		made++
		if made == at+1 {
			return api.ErrIO
		}
		return err
	}
	o.write = func(i int, b []byte) error { return tell(d.Write(i, b)) }
	o.flush = func() error { return tell(d.Flush()) }
	return o, func() bool { return made > at }
}
