package record

import (
	"strings"
	"testing"

	"sagas/api"
)

// made makes a saga that is one.
func made(t *testing.T, id int, steps ...api.Step) Saga {
	t.Helper()
	s, err := NewSaga(id, steps)
	if err != nil {
		t.Fatalf("NewSaga(%d, %v): %v", id, steps, err)
	}
	return s
}

// full is a saga that has all that a saga may have.
func full(t *testing.T) Saga {
	t.Helper()
	step := api.Step{Do: "\xff2345678", Undo: "\x00ABCDEF\xff"}
	return made(t, api.MaxId, step, step, step, step, step, step)
}

// sagas are some that differ from each other by little.
func sagas(t *testing.T) []Saga {
	t.Helper()
	return []Saga{
		made(t, 1, api.Step{}),
		made(t, 1, api.Step{}, api.Step{}),
		made(t, 2, api.Step{}),
		made(t, 256, api.Step{}),
		made(t, 257, api.Step{}),
		made(t, 1, api.Step{Do: "\x00"}),
		made(t, 1, api.Step{Undo: "\x00"}),
		made(t, 1, api.Step{Do: "a"}),
		made(t, 1, api.Step{Do: "a\x00"}),
		made(t, 1, api.Step{Do: "ab", Undo: "c"}),
		made(t, 1, api.Step{Do: "a", Undo: "bc"}),
		made(t, 1, api.Step{}, api.Step{Do: "a"}),
		made(t, 1, api.Step{Do: "12345678"}),
		made(t, 1, api.Step{Undo: "12345678"}),
		full(t),
	}
}

func TestSagasAreReadAsTheyWereLaid(t *testing.T) {
	seen := map[Block]Saga{}
	for _, s := range sagas(t) {
		b := s.Block()
		if !Whole(b) {
			t.Errorf("the record of %v is not whole", s)
		}
		if got, ok := readSaga(b); !ok || got != s {
			t.Errorf("%v is read as %v, %v", s, got, ok)
		}
		if other, ok := seen[b]; ok {
			t.Errorf("%v and %v have one record", s, other)
		}
		seen[b] = s
	}
}

// P8: of a record of which a sector is missing nothing is left.
func TestARecordWithoutASectorIsNotWhole(t *testing.T) {
	for _, s := range sagas(t) {
		for _, b := range cuts(s.Block()) {
			if Whole(b) {
				t.Errorf("what is left of the record of %v is whole: %v", s, b)
			}
		}
	}
}

func TestWhatIsNoSaga(t *testing.T) {
	long := strings.Repeat("x", api.MaxData+1)
	for name, c := range map[string]struct {
		id    int
		steps []api.Step
	}{
		"id 0":        {0, make([]api.Step, 1)},
		"id -1":       {-1, make([]api.Step, 1)},
		"id 1001":     {api.MaxId + 1, make([]api.Step, 1)},
		"no list":     {1, nil},
		"no step":     {1, []api.Step{}},
		"7 steps":     {1, make([]api.Step, 7)},
		"257 steps":   {1, make([]api.Step, 257)},
		"a long Do":   {1, []api.Step{{Do: long}}},
		"a long Undo": {1, []api.Step{{}, {Undo: long}}},
	} {
		if s, err := NewSaga(c.id, c.steps); err != api.ErrSaga || s != (Saga{}) {
			t.Errorf("%s: %v, %v", name, s, err)
		}
	}
}

// Whatever stands in a block: it is read as the saga whose record it is, or not at all.
func TestBlocksThatAreNoRecord(t *testing.T) {
	for _, s := range sagas(t) {
		for at := range api.Block {
			for _, value := range []byte{0, 1, 2, 3, 0x0f, 0x80, 0x88, 0x90, 0xff} {
				b := s.Block()
				b[at] = value
				if got, ok := readSaga(b); ok && got.Block() != b {
					t.Errorf("byte %d of %v: %v, of another record", at, s, got)
				}
			}
		}
	}
	b := full(t).Block()
	for _, at := range []int{api.Block - 1, 1, 3} { // noughts behind the steps; a great id; too many steps
		wrong := b
		wrong[at] = 77
		if s, ok := readSaga(wrong); ok {
			t.Errorf("byte %d is wrong: %v", at, s)
		}
	}
	if s, ok := readSaga(Block{}); ok || s != (Saga{}) {
		t.Errorf("noughts are read as %v", s)
	}
}
