package roll

import (
	"math"
	"testing"

	"sagas/api"
)

// P6: where each reply moves a saga, from where it may stand.
func TestP6Moves(t *testing.T) {
	for _, c := range []struct {
		from  stand
		reply int
		want  stand
	}{
		{stand{State: api.Running, Step: 1, Steps: 1}, api.Done, stand{State: api.Committed, Steps: 1}},
		{stand{State: api.Running, Step: 1, Steps: 1}, api.Never, stand{State: api.Aborted, Steps: 1}},
		{stand{State: api.Running, Step: 1, Steps: 2}, api.Done, stand{State: api.Running, Step: 2, Steps: 2}},
		{stand{State: api.Running, Step: 1, Steps: 2}, api.Never, stand{State: api.Aborted, Steps: 2}},
		{stand{State: api.Running, Step: 2, Steps: 2}, api.Done, stand{State: api.Committed, Steps: 2}},
		{stand{State: api.Running, Step: 2, Steps: 2}, api.Never, stand{State: api.Undoing, Step: 1, Steps: 2}},
		{stand{State: api.Running, Step: 6, Steps: 6}, api.Done, stand{State: api.Committed, Steps: 6}},
		{stand{State: api.Running, Step: 6, Steps: 6}, api.Never, stand{State: api.Undoing, Step: 5, Steps: 6}},
		{stand{State: api.Running, Step: 5, Steps: 6}, api.Done, stand{State: api.Running, Step: 6, Steps: 6}},
		{stand{State: api.Undoing, Step: 5, Steps: 6}, api.Done, stand{State: api.Undoing, Step: 4, Steps: 6}},
		{stand{State: api.Undoing, Step: 1, Steps: 6}, api.Done, stand{State: api.Aborted, Steps: 6}},
		{stand{State: api.Undoing, Step: 1, Steps: 2}, api.Done, stand{State: api.Aborted, Steps: 2}},
	} {
		for _, tries := range []int{0, 1, 9} {
			from, want := c.from, c.want
			from.Id, from.Tries, from.Due, want.Id = 3, tries, 5*tries, 3
			if got, moves := from.moved(c.reply); got != want || !moves {
				t.Errorf("%v, reply %d: %v, %v, want %v", from, c.reply, got, moves, want)
			}
		}
	}
}

func TestP6WhatMovesNothing(t *testing.T) {
	odd := []int{api.Later, 3, 4, 77, -1, 256, 258, 1 << 32, math.MinInt, math.MaxInt}
	replies := map[int][]int{
		api.Running:   odd,
		api.Undoing:   append(odd, api.Never),
		api.Committed: append(odd, api.Done, api.Never),
		api.Aborted:   append(odd, api.Done, api.Never),
	}
	for state, l := range replies {
		from := stand{Id: 3, State: state, Step: 1, Steps: 2, Tries: 2, Due: 7}
		for _, reply := range l {
			if got, moves := from.moved(reply); got != from || moves {
				t.Errorf("%v, reply %d: %v, %v", from, reply, got, moves)
			}
		}
	}
}

// P6: the waits of a row of askings in vain are 1, 2, 4 and so on, at most the pause.
func TestP6Waits(t *testing.T) {
	for pause := 1; pause <= api.MaxPause; pause++ {
		s := stand{Id: 3, State: api.Running, Step: 1, Steps: 2}
		wait := 1
		for tries := 1; tries < 200; tries++ {
			s = s.putOff(1000, pause)
			if want := (stand{Id: 3, State: api.Running, Step: 1, Steps: 2, Tries: tries, Due: 1000 + min(wait, pause)}); s != want {
				t.Errorf("pause %d: %v, want %v", pause, s, want)
			}
			wait = min(2*wait, 2*api.MaxPause)
		}
	}
}
