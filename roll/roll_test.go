package roll

import (
	"slices"
	"testing"

	"sagas/api"
	"sagas/record"
)

// saga is one of n steps.
func saga(t *testing.T, id, n int) record.Saga {
	t.Helper()
	s, err := record.NewSaga(id, make([]api.Step, n))
	if err != nil {
		t.Fatal(err)
	}
	return s
}

// most is how many moves a saga of n steps makes at most, whatever the replies are.
func most(s stand) int {
	n := 0
	for _, reply := range []int{api.Done, api.Later, api.Never} {
		if next, moves := s.moved(reply); moves {
			n = max(n, 1+most(next))
		}
	}
	return n
}

// P9: a saga that is taken has room for its own record and for one of each move.
func TestP9RoomIsKeptForAllMoves(t *testing.T) {
	for n := 1; n <= api.MaxSteps; n++ {
		want := 1 + most(begun(saga(t, 1, n)))
		if want > 2*n+2 {
			t.Fatalf("P9 names less than what a saga of %d steps needs", n)
		}
		for room := range 20 * want {
			r := New(room)
			for id := 1; id <= room/want; id++ {
				if !r.Fits(saga(t, id, n)) || !r.Take(saga(t, id, n)) {
					t.Errorf("saga %d of %d steps has no room in %d", id, n, room)
				}
			}
			if s := saga(t, room/want+1, n); r.Fits(s) || r.Take(s) || len(r.Statuses()) != room/want {
				t.Errorf("saga %d of %d steps has room in %d, less than it needs", s.Id, n, room)
			}
		}
	}
}

func TestTakenByRisingIds(t *testing.T) {
	r := New(400)
	for _, id := range []int{500, 1, 1000, 2, 999} {
		if !r.Take(saga(t, id, 3)) {
			t.Errorf("saga %d is not taken", id)
		}
		if r.Take(saga(t, id, 3)) || r.Take(saga(t, id, 2)) {
			t.Errorf("saga %d is taken twice", id)
		}
	}
	var ids []int
	for _, s := range r.Statuses() {
		ids = append(ids, s.Id)
	}
	if !slices.Equal(ids, []int{1, 2, 500, 999, 1000}) {
		t.Errorf("the roll has %v", ids)
	}
}

func TestFindById(t *testing.T) {
	r := New(400)
	r.Take(saga(t, 7, 3))
	if s, ok := r.Saga(7); !ok || s != saga(t, 7, 3) {
		t.Errorf("saga 7: %v, %v", s, ok)
	}
	if s, ok := r.Status(7); !ok || s != (api.Status{Id: 7, State: api.Running, Step: 1, Steps: 3}) {
		t.Errorf("the status of saga 7: %v, %v", s, ok)
	}
	for _, id := range []int{-7, 0, 6, 8, 1001} {
		if s, ok := r.Saga(id); ok || s != (record.Saga{}) {
			t.Errorf("saga %d: %v, %v", id, s, ok)
		}
		if s, ok := r.Status(id); ok || s != (api.Status{}) {
			t.Errorf("the status of saga %d: %v, %v", id, s, ok)
		}
	}
}

// What was handed out stays as it is.
func TestStatusesAreNewEachTime(t *testing.T) {
	r := New(400)
	r.Take(saga(t, 2, 1))
	was := r.Statuses()
	r.Take(saga(t, 1, 1))
	if len(was) != 1 || was[0].Id != 2 {
		t.Errorf("what was handed out now reads %v", was)
	}
	was[0].State = 9
	if s, _ := r.Status(2); s.State != api.Running {
		t.Error("what was handed out is the roll's own")
	}
}

func TestNextIsWhereASagaStands(t *testing.T) {
	r := New(400)
	l := []api.Step{{Do: "a", Undo: "A"}, {Do: "b", Undo: "B"}, {Do: "c", Undo: "C"}}
	s, err := record.NewSaga(9, l)
	if err != nil || !r.Take(s) {
		t.Fatal("saga 9 is not taken")
	}
	for _, c := range []struct {
		reply int
		want  api.Call
	}{
		{api.Done, api.Call{Saga: 9, Step: 1, Data: "a"}},
		{api.Done, api.Call{Saga: 9, Step: 2, Data: "b"}},
		{api.Never, api.Call{Saga: 9, Step: 3, Data: "c"}},
		{api.Done, api.Call{Saga: 9, Step: 2, Back: true, Data: "B"}},
		{api.Done, api.Call{Saga: 9, Step: 1, Back: true, Data: "A"}},
	} {
		if got, due := r.Next(9, 0); got != c.want || !due {
			t.Errorf("next is %v, due %v, want %v", got, due, c.want)
		}
		r.PutOff(9, 6, 64)
		for clock, want := range map[int]bool{5: false, 6: false, 7: true, 8: true} {
			if got, due := r.Next(9, clock); got != c.want || due != want {
				t.Errorf("next at %d is %v, due %v", clock, got, due)
			}
		}
		if !r.Move(record.Move{Id: 9, Reply: c.reply}) {
			t.Errorf("the reply %d to %v moves nothing", c.reply, c.want)
		}
	}
	if got, due := r.Next(9, 100); got != (api.Call{}) || due {
		t.Errorf("next of a saga that is over: %v, due %v", got, due)
	}
}

// A saga moves alone, and only by what moves it; one that is not there does not move.
func TestMovesOfOneSaga(t *testing.T) {
	r := New(400)
	for id := 1; id < 4; id++ {
		r.Take(saga(t, id, 2))
	}
	for _, m := range []record.Move{{Id: 2, Reply: api.Later}, {Id: 2, Reply: 3}, {Id: 2, Reply: -1}, {Id: 0, Reply: api.Done}, {Id: 4, Reply: api.Done}} {
		if r.Moves(m) || r.Move(m) {
			t.Errorf("%v moves something", m)
		}
	}
	r.PutOff(4, 1, 1)
	if m := (record.Move{Id: 2, Reply: api.Done}); !r.Moves(m) || !r.Moves(m) || !r.Move(m) {
		t.Errorf("%v moves nothing", m)
	}
	want := []api.Status{{Id: 1, State: api.Running, Step: 1, Steps: 2}, {Id: 2, State: api.Running, Step: 2, Steps: 2}, {Id: 3, State: api.Running, Step: 1, Steps: 2}}
	if got := r.Statuses(); !slices.Equal(got, want) {
		t.Errorf("the sagas stand as %v, want %v", got, want)
	}
	if c, due := r.Next(4, 9); c != (api.Call{}) || due {
		t.Errorf("next of a saga that is not there: %v, due %v", c, due)
	}
}
