package roll

import (
	"slices"
	"testing"

	"sagas/api"
	"sagas/record"
)

// saga is one of n steps.
func saga(t *testing.T, id, n int) record.Saga {
	t.Helper()
	s, err := record.NewSaga(id, make([]api.Step, n))
	if err != nil {
		t.Fatal(err)
	}
	return s
}

// moves is how many moves a saga of n steps makes at most: of each step that may be the one that is refused for good, and of none.
func moves(n int) int {
	most := n
	for refused := 1; refused <= n; refused++ {
		done := refused - 1
		most = max(most, done+1+done)
	}
	return most
}

// P9: a saga that is taken has room for its own record and for one of each move.
func TestP9RoomIsKeptForAllMoves(t *testing.T) {
	for n := 1; n <= api.MaxSteps; n++ {
		want := 1 + moves(n)
		if want > 2*n+2 {
			t.Fatalf("P9 names less than what a saga of %d steps needs", n)
		}
		for room := range 20 * want {
			r := New(room)
			for id := 1; id <= room/want; id++ {
				if !r.Fits(saga(t, id, n)) || !r.Take(saga(t, id, n)) {
					t.Errorf("saga %d of %d steps has no room in %d", id, n, room)
				}
			}
			if s := saga(t, room/want+1, n); r.Fits(s) || r.Take(s) || len(r.Statuses()) != room/want {
				t.Errorf("saga %d of %d steps has room in %d, less than it needs", s.Id, n, room)
			}
		}
	}
}

func TestTakenByRisingIds(t *testing.T) {
	r := New(400)
	for _, id := range []int{500, 1, 1000, 2, 999} {
		if !r.Take(saga(t, id, 3)) {
			t.Errorf("saga %d is not taken", id)
		}
		if r.Take(saga(t, id, 3)) || r.Take(saga(t, id, 2)) {
			t.Errorf("saga %d is taken twice", id)
		}
	}
	var ids []int
	for _, s := range r.Statuses() {
		ids = append(ids, s.Id)
	}
	if !slices.Equal(ids, []int{1, 2, 500, 999, 1000}) {
		t.Errorf("the roll has %v", ids)
	}
}

func TestFindById(t *testing.T) {
	r := New(400)
	r.Take(saga(t, 7, 3))
	if s, ok := r.Saga(7); !ok || s != saga(t, 7, 3) {
		t.Errorf("saga 7: %v, %v", s, ok)
	}
	if s, ok := r.Status(7); !ok || s != (api.Status{Id: 7, State: api.Running, Step: 1, Steps: 3}) {
		t.Errorf("the status of saga 7: %v, %v", s, ok)
	}
	for _, id := range []int{-7, 0, 6, 8, 1001} {
		if s, ok := r.Saga(id); ok || s != (record.Saga{}) {
			t.Errorf("saga %d: %v, %v", id, s, ok)
		}
		if s, ok := r.Status(id); ok || s != (api.Status{}) {
			t.Errorf("the status of saga %d: %v, %v", id, s, ok)
		}
	}
}

// What was handed out stays as it is.
func TestStatusesAreNewEachTime(t *testing.T) {
	r := New(400)
	r.Take(saga(t, 2, 1))
	was := r.Statuses()
	r.Take(saga(t, 1, 1))
	if len(was) != 1 || was[0].Id != 2 {
		t.Errorf("what was handed out now reads %v", was)
	}
	was[0].State = 9
	if s, _ := r.Status(2); s.State != api.Running {
		t.Error("what was handed out is the roll's own")
	}
}
