package sagas_test

import (
	"math"
	"slices"
	"testing"

	"sagas/api"
	"sagas/sagas"
)

// some is an engine with sagas of these ids, of one step and more.
func some(t *testing.T, ids ...int) (*sagas.Engine, []api.Status) {
	t.Helper()
	x := opened(t, formatted(t, 100))
	var want []api.Status
	for i, id := range ids {
		submit(t, x, id, steps(1+i%api.MaxSteps, "s"))
		want = append(want, begun(id, 1+i%api.MaxSteps))
	}
	slices.SortFunc(want, func(a, b api.Status) int { return a.Id - b.Id })
	return x, want
}

func TestP7StatusOfEach(t *testing.T) {
	x, want := some(t, 500, 1, 1000, 2, 999, 3, 256, 255)
	tells(t, "P7", x, want...)
	for _, id := range []int{math.MinInt, -1, 0, 4, 501, 998, 1001, 1<<16 + 1, math.MaxInt} {
		s, err := x.Status(id)
		is(t, "P7: Status of none", err, api.ErrNone)
		if s != (api.Status{}) {
			t.Errorf("P1: Status of none tells %v", s)
		}
	}
}

func TestP7StatusOfAnEmptyEngine(t *testing.T) {
	x := opened(t, formatted(t, 8))
	for _, id := range []int{-1, 0, 1, 1000, 1001} {
		s, err := x.Status(id)
		is(t, "P7: Status of none", err, api.ErrNone)
		if s != (api.Status{}) {
			t.Errorf("P1: Status of none tells %v", s)
		}
	}
	for s := range x.All() {
		t.Errorf("P7: All of an empty engine tells %v", s)
	}
}

func TestP7AllIsToldToStop(t *testing.T) {
	x, want := some(t, 7, 5, 6, 1, 3, 2)
	all := x.All()
	for stop := range len(want) + 2 {
		var got []api.Status
		all(func(s api.Status) bool {
			got = append(got, s)
			return len(got) != stop+1
		})
		if n := min(stop+1, len(want)); !slices.Equal(got, want[:n]) {
			t.Errorf("P7: All, told to stop behind %d: %v, want %v", stop+1, got, want[:n])
		}
	}
	for s := range all {
		if s != want[0] {
			t.Errorf("P7: All, left at once: %v, want %v", s, want[0])
		}
		break
	}
	tells(t, "P7: behind All that was told to stop", x, want...)
}

// All goes through the sagas again each time, also inside itself.
func TestP7AllInAll(t *testing.T) {
	x, want := some(t, 3, 1, 2)
	var got []api.Status
	for range x.All() {
		for s := range x.All() {
			got = append(got, s)
		}
	}
	if !slices.Equal(got, slices.Concat(want, want, want)) {
		t.Errorf("P7: All in All: %v", got)
	}
}

// What All goes through stays as it was, though a saga comes in on its way.
func TestP7NothingChangesOnTheWay(t *testing.T) {
	x, want := some(t, 10, 20, 30)
	var got []api.Status
	for s := range x.All() {
		got = append(got, s)
		_ = x.Submit(s.Id-1, steps(1, "new"))
		_ = x.Submit(s.Id+1, steps(1, "new"))
	}
	if !slices.Equal(got, want) {
		t.Errorf("P7: All, with Submits on its way: %v, want %v", got, want)
	}
}

// Status and All leave the device alone.
func TestP7TheDeviceIsNotAsked(t *testing.T) {
	d, rest := quiet(t, formatted(t, 40))
	x := opened(t, d)
	submit(t, x, 1, steps(2, "a"))
	rest()
	tells(t, "P7", x, begun(1, 2))
}

// Behind a failure Status and All go on to tell.
func TestP7TheyTellBehindAFailure(t *testing.T) {
	d := formatted(t, 40)
	x := opened(t, d)
	submit(t, x, 2, steps(2, "a"))
	d.Off(0)
	is(t, "P8: Submit", x.Submit(1, steps(1, "b")), api.ErrIO)
	s, err := x.Status(2)
	is(t, "P8: Status", err, api.OK)
	if s != begun(2, 2) {
		t.Errorf("P8: Status tells %v", s)
	}
	var ids []int
	for s := range x.All() {
		ids = append(ids, s.Id)
	}
	if !slices.Equal(ids, []int{2}) && !slices.Equal(ids, []int{1, 2}) {
		t.Errorf("P8: All tells %v", ids)
	}
}
