// Package roll keeps in memory which sagas there are, and how they stand.
package roll

import (
	"cmp"
	"slices"

	"sagas/api"
	"sagas/record"
)

// entry is a saga and how it stands.
type entry struct {
	saga   record.Saga
	status api.Status
}

// Roll holds sagas by rising ids.
type Roll struct {
	entries []*entry
	room    int // blocks that no saga may come to need
}

// New makes an empty roll for a journal that has room for so many records.
func New(room int) *Roll { return &Roll{room: room} }

// need is how many records a saga of n steps may come to need, so that it never lacks room: one for itself, and one for each move; at most n - 1 steps are done, one is refused for good, and n - 1 are taken back.
func need(s record.Saga) int { return 2 * s.Count }

// Fits: is there room for another saga?
func (r *Roll) Fits(s record.Saga) bool { return need(s) <= r.room }

// Take puts a saga on the roll, at its beginning; false, if there is no room for it, or one of its id is there.
func (r *Roll) Take(s record.Saga) bool {
	at, used := r.place(s.Id)
	if used || !r.Fits(s) {
		return false
	}
	begun := api.Status{Id: s.Id, State: api.Running, Step: 1, Steps: s.Count}
	r.entries = slices.Insert(r.entries, at, &entry{s, begun})
	r.room -= need(s)
	return true
}

// place is where a saga of that id stands, or would stand.
func (r *Roll) place(id int) (int, bool) {
	return slices.BinarySearchFunc(r.entries, id, func(e *entry, id int) int {
		return cmp.Compare(e.saga.Id, id)
	})
}

// Saga is the saga of an id; false, if there is none.
func (r *Roll) Saga(id int) (record.Saga, bool) {
	at, there := r.place(id)
	if !there {
		return record.Saga{}, false
	}
	return r.entries[at].saga, true
}

// Status is how the saga of an id stands; false, if there is none.
func (r *Roll) Status(id int) (api.Status, bool) {
	at, there := r.place(id)
	if !there {
		return api.Status{}, false
	}
	return r.entries[at].status, true
}

// Statuses is how all sagas stand now, by rising ids.
func (r *Roll) Statuses() []api.Status {
	out := make([]api.Status, len(r.entries))
	for i, e := range r.entries {
		out[i] = e.status
	}
	return out
}
