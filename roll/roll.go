// Package roll keeps in memory which sagas there are, and how they stand.
package roll

import (
	"cmp"
	"slices"

	"sagas/api"
	"sagas/record"
)

// entry is a saga and how it stands.
type entry struct {
	saga  record.Saga
	stand stand
}

// Roll holds sagas by rising ids.
type Roll struct {
	entries []*entry
	room    int // blocks that no saga may come to need
}

// New makes an empty roll for a journal that has room for so many records.
func New(room int) *Roll { return &Roll{room: room} }

// need is how many records a saga of n steps may come to need, so that it never lacks room: one for itself, and one for each move; at most n - 1 steps are done, one is refused for good, and n - 1 are taken back.
func need(s record.Saga) int { return 2 * s.Count }

// Fits: is there room for another saga?
func (r *Roll) Fits(s record.Saga) bool { return need(s) <= r.room }

// Take puts a saga on the roll, at its beginning; false, if there is no room for it, or one of its id is there.
func (r *Roll) Take(s record.Saga) bool {
	at, used := r.place(s.Id)
	if used || !r.Fits(s) {
		return false
	}
	r.entries = slices.Insert(r.entries, at, &entry{s, begun(s)})
	r.room -= need(s)
	return true
}

// place is where a saga of that id stands, or would stand.
func (r *Roll) place(id int) (int, bool) {
	return slices.BinarySearchFunc(r.entries, id, func(e *entry, id int) int {
		return cmp.Compare(e.saga.Id, id)
	})
}

// find is the entry of an id; nil, if there is none.
func (r *Roll) find(id int) *entry {
	at, there := r.place(id)
	if !there {
		return nil
	}
	return r.entries[at]
}

// Saga is the saga of an id; false, if there is none.
func (r *Roll) Saga(id int) (record.Saga, bool) {
	e := r.find(id)
	if e == nil {
		return record.Saga{}, false
	}
	return e.saga, true
}

// Status is how the saga of an id stands; false, if there is none.
func (r *Roll) Status(id int) (api.Status, bool) {
	e := r.find(id)
	if e == nil {
		return api.Status{}, false
	}
	return api.Status(e.stand), true
}

// Statuses is how all sagas stand now, by rising ids.
func (r *Roll) Statuses() []api.Status {
	out := make([]api.Status, len(r.entries))
	for i, e := range r.entries {
		out[i] = api.Status(e.stand)
	}
	return out
}

// Next is what is to be asked for next of a saga, and whether that is due at a tick; of one that is over, or is not there, nothing is.
func (r *Roll) Next(id, clock int) (c api.Call, due bool) {
	e := r.find(id)
	if e == nil || !e.stand.open() {
		return api.Call{}, false
	}
	return e.call(), e.stand.Due <= clock
}

// call is what is to be asked for of a saga that is open.
func (e *entry) call() api.Call {
	step := e.saga.Steps[e.stand.Step-1]
	c := api.Call{Saga: e.saga.Id, Step: e.stand.Step, Data: step.Do}
	if e.stand.State == api.Undoing {
		c.Back, c.Data = true, step.Undo
	}
	return c
}

// Moves: would Move move a saga?
func (r *Roll) Moves(m record.Move) bool {
	e := r.find(m.Id)
	if e == nil {
		return false
	}
	_, moves := e.stand.moved(m.Reply)
	return moves
}

// Move moves a saga; false, if there is none of its id, or it is not moved by that reply.
func (r *Roll) Move(m record.Move) bool {
	if !r.Moves(m) {
		return false
	}
	e := r.find(m.Id)
	e.stand, _ = e.stand.moved(m.Reply)
	return true
}

// PutOff notes that a saga was asked for in vain at a tick.
func (r *Roll) PutOff(id, clock, pause int) {
	if e := r.find(id); e != nil {
		e.stand = e.stand.putOff(clock, pause)
	}
}
