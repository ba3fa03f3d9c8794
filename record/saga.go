package record

import (
	"strings"

	"sagas/api"
)

// Saga is what was submitted: a structure without lists, so that two of them are compared by ==, and handing one on is a copy.
type Saga struct {
	Id, Count int
	Steps     [api.MaxSteps]api.Step // noughts behind the first Count of them
}

// What stands where in a saga's body, behind its id.
const (
	stepsAt  = 2 // how many there are
	firstAt  = 3 // the first of them
	dataAt   = 1 // in a step, behind the lengths of its Do and its Undo
	stepSize = dataAt + 2*api.MaxData
)

// NewSaga makes a saga: ErrSaga, if that is none. It shares no memory with what is handed in.
func NewSaga(id int, steps []api.Step) (Saga, error) {
	if id < 1 || id > api.MaxId || len(steps) < 1 || len(steps) > api.MaxSteps {
		return Saga{}, api.ErrSaga
	}
	s := Saga{Id: id, Count: len(steps)}
	for i, step := range steps {
		if len(step.Do) > api.MaxData || len(step.Undo) > api.MaxData {
			return Saga{}, api.ErrSaga
		}
		s.Steps[i] = api.Step{Do: strings.Clone(step.Do), Undo: strings.Clone(step.Undo)}
	}
	return s, nil
}

// Block is the record of a saga.
func (s Saga) Block() Block {
	var said body
	putId(&said, s.Id)
	said[stepsAt] = byte(s.Count)
	for i, step := range s.Steps {
		at := firstAt + i*stepSize
		said[at] = byte(len(step.Do)<<4 | len(step.Undo))
		copy(said.part(at+dataAt, api.MaxData), step.Do)
		copy(said.part(at+dataAt+api.MaxData, api.MaxData), step.Undo)
	}
	return laid(saga, said)
}

// readSaga reads a saga's record; false, if the block is not what Block would make of any saga.
func readSaga(b Block) (Saga, bool) {
	said := read(b)
	steps := make([]api.Step, min(int(said[stepsAt]), api.MaxSteps))
	for i := range steps {
		at := firstAt + i*stepSize
		steps[i].Do = text(said.part(at+dataAt, api.MaxData), said[at]>>4)
		steps[i].Undo = text(said.part(at+dataAt+api.MaxData, api.MaxData), said[at]&15)
	}
	s, err := NewSaga(getId(said), steps)
	if err != nil || s.Block() != b {
		return Saga{}, false
	}
	return s, true
}

// text reads a text of some length. A length beyond the bytes is no fault here: the saga's own record will not be the one that was read.
func text(b []byte, size byte) string {
	return string(b[:min(int(size), len(b))])
}
