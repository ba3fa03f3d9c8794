package journal

import (
	"errors"
	"slices"
	"testing"

	"sagas/api"
	"sagas/record"
	"sagas/volume"
)

func on(t *testing.T, d api.Device) *volume.Volume {
	t.Helper()
	v, err := volume.New(d)
	if err != nil {
		t.Fatal(err)
	}
	return v
}

// laid is a disk with an empty journal.
func laid(t *testing.T, n int) *api.Disk {
	t.Helper()
	d := api.NewDisk(n)
	if err := Lay(on(t, d)); err != nil || d.Pending() != 0 {
		t.Fatalf("Lay: %v, %d writes wait", err, d.Pending())
	}
	return d
}

func saga(t *testing.T, id int) record.Saga {
	t.Helper()
	s, err := record.NewSaga(id, []api.Step{{Do: "do", Undo: "undo"}})
	if err != nil {
		t.Fatal(err)
	}
	return s
}

// find finds a journal, and tells the ids in it, those of moves below 0.
func find(t *testing.T, d api.Device) (*Journal, []int, error) {
	t.Helper()
	var ids []int
	j, err := Find(on(t, d), func(s record.Saga) bool {
		if s != saga(t, s.Id) {
			t.Errorf("a saga that nobody added: %v", s)
		}
		ids = append(ids, s.Id)
		return true
	}, func(m record.Move) bool {
		ids = append(ids, -m.Id)
		return true
	})
	if (j == nil) != (err != nil) {
		t.Errorf("Find: is there a journal? %v, beside %v", j != nil, err)
	}
	return j, ids, err
}

// put writes a block, and makes sure of it.
func put(t *testing.T, d *api.Disk, at int, b record.Block) {
	t.Helper()
	if d.Write(at, b[:]) != nil || d.Flush() != nil {
		t.Fatal("the disk told an error")
	}
}

func TestLayAndFind(t *testing.T) {
	if _, _, err := find(t, api.NewDisk(20)); err != api.ErrCorrupt {
		t.Errorf("Find on noughts: %v", err)
	}
	if _, ids, err := find(t, laid(t, 20)); err != nil || len(ids) != 0 {
		t.Errorf("Find behind Lay: %v, %v", ids, err)
	}
	if n := Room(on(t, laid(t, 20))); n != 19 {
		t.Errorf("room for %d records on 20 blocks", n)
	}
}

func TestAddAndFind(t *testing.T) {
	d := laid(t, 8)
	var want []int
	for i := range 7 {
		j, ids, err := find(t, d)
		if err != nil || !slices.Equal(ids, want) {
			t.Fatalf("Find: %v, %v, want %v", ids, err, want)
		}
		if err := j.Add(saga(t, 9-i).Block()); err != nil || d.Pending() != 0 {
			t.Fatalf("Add: %v, %d writes wait", err, d.Pending())
		}
		want = append(want, 9-i)
	}
	if _, ids, err := find(t, d); err != nil || !slices.Equal(ids, want) {
		t.Errorf("Find on a full device: %v, %v, want %v", ids, err, want)
	}
}

// A head in which anything is wrong is none.
func TestFindWithAWrongHead(t *testing.T) {
	for at := range api.Block {
		d := api.NewDisk(20)
		b := record.Head(20)
		b[at]++
		put(t, d, headAt, b)
		if _, _, err := find(t, d); err != api.ErrCorrupt {
			t.Errorf("Find, byte %d of the head is wrong: %v", at, err)
		}
	}
}

// A record that is not whole ends the journal, and gives its place to the next one.
func TestARecordThatWasCutOff(t *testing.T) {
	for keep := range 15 {
		d := laid(t, 20)
		put(t, d, 1, saga(t, 1).Block())
		b := saga(t, 2).Block()
		if err := d.Write(2, b[:]); err != nil {
			t.Fatal(err)
		}
		d = d.After([]int{keep})
		j, ids, err := find(t, d)
		if err != nil || !slices.Equal(ids, []int{1}) {
			t.Fatalf("Find, of a record the sectors %b: %v, %v", keep, ids, err)
		}
		if err := j.Add(saga(t, 3).Block()); err != nil {
			t.Fatal(err)
		}
		if _, ids, err = find(t, d); err != nil || !slices.Equal(ids, []int{1, 3}) {
			t.Errorf("Find behind the next one: %v, %v", ids, err)
		}
	}
}

func TestFindWithWrongRecords(t *testing.T) {
	good := saga(t, 1).Block()
	wrong := good
	wrong[api.Block-1] = 1
	half := good
	half[api.Sector] = 0
	nothing := record.Move{Id: 1}.Block()
	nothing[api.Block-1] = 1
	for name, l := range map[string][]record.Block{
		"a whole one that says nothing":     {good, wrong},
		"one behind a gap":                  {good, {}, good},
		"one behind one that was cut off":   {good, half, good},
		"some bytes behind the end":         {good, {}, {}, {100: 1}},
		"one in the last block":             {6: good},
		"one that take does not want again": {good, good},
		"a move that says nothing":          {good, nothing},
		"a move that nobody wants":          {good, record.Move{Id: 1}.Block()},
	} {
		d := laid(t, 8)
		for i, b := range l {
			put(t, d, 1+i, b)
		}
		taken := 0
		j, err := Find(on(t, d), func(s record.Saga) bool { taken++; return taken == 1 }, func(m record.Move) bool { return false })
		if j != nil || err != api.ErrCorrupt {
			t.Errorf("Find with %s: %v, %v", name, j, err)
		}
	}
}

// Sagas and moves come in the order in which they were added.
func TestMovesAreFoundInOrder(t *testing.T) {
	d := laid(t, 8)
	j, _, err := find(t, d)
	if err != nil {
		t.Fatal(err)
	}
	want := []int{1, -1, 2, -2, -1, 3}
	for _, id := range want {
		b := record.Move{Id: -id}.Block()
		if id > 0 {
			b = saga(t, id).Block()
		}
		if err := j.Add(b); err != nil || d.Pending() != 0 {
			t.Fatalf("Add: %v, %d writes wait", err, d.Pending())
		}
	}
	if _, ids, err := find(t, d); err != nil || !slices.Equal(ids, want) {
		t.Errorf("Find: %v, %v, want %v", ids, err, want)
	}
}

// Ahead of all else that a journal is used for, what was found is sure, and what was cut off is gone.
func TestSettled(t *testing.T) {
	for name, use := range map[string]func(j *Journal) error{
		"Settle": func(j *Journal) error { return j.Settle() },
		"Add":    func(j *Journal) error { return j.Add(saga(t, 3).Block()) },
	} {
		d := laid(t, 8)
		first, last := saga(t, 1).Block(), saga(t, 2).Block()
		last[api.Sector] = 0
		if d.Write(1, first[:]) != nil || d.Write(2, last[:]) != nil {
			t.Fatal("the disk told an error")
		}
		j, ids, err := find(t, d)
		if err != nil || !slices.Equal(ids, []int{1}) || d.Pending() != 2 {
			t.Fatalf("Find: %v, %v, %d writes wait", ids, err, d.Pending())
		}
		d.Off(2)
		if err := use(j); (err == nil) != (name == "Settle") || err != nil && !errors.Is(err, api.ErrIO) {
			t.Errorf("%s without power behind two calls: %v", name, err)
		}
		if d.Pending() != 0 || d.Bytes()[api.Block:] != string(first[:])+string(make([]byte, 6*api.Block)) {
			t.Errorf("%s: what was found is not sure, or something stands behind it", name)
		}
		if name == "Settle" && (use(j) != nil || d.Told() != 0) {
			t.Error("what is settled is settled again")
		}
	}
}

func TestErrorsOfTheDevice(t *testing.T) {
	d := api.NewDisk(20)
	d.Bad(0, 1)
	if err := Lay(on(t, d)); !errors.Is(err, api.ErrIO) {
		t.Errorf("Lay: %v", err)
	}
	d = laid(t, 20)
	for at := range 20 {
		d.Bad(at, 1)
		if _, _, err := find(t, d); !errors.Is(err, api.ErrIO) {
			t.Errorf("Find: %v", err)
		}
	}
	for at := range 4 {
		d.Bad(0, 0)
		j, _, err := find(t, d)
		if err != nil {
			t.Fatal(err)
		}
		d.Bad(at, 1)
		if err := j.Add(saga(t, 1).Block()); !errors.Is(err, api.ErrIO) {
			t.Errorf("Add, error at call %d: %v", at, err)
		}
	}
	for at := range 2 {
		d := laid(t, 20)
		j, _, err := find(t, d)
		if err != nil {
			t.Fatal(err)
		}
		d.Bad(at, 1)
		if err := j.Settle(); !errors.Is(err, api.ErrIO) {
			t.Errorf("Settle, error at call %d: %v", at, err)
		}
	}
}
