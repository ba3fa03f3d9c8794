package roll

import (
	"math/bits"

	"sagas/api"
	"sagas/record"
)

// stand is how a saga stands: a status that can move.
type stand api.Status

// begun is a saga at its beginning.
func begun(s record.Saga) stand {
	return stand{Id: s.Id, State: api.Running, Step: 1, Steps: s.Count}
}

// moves tells, by a saga's state, how a reply moves it; false, if it moves nothing.
func moves() [api.Aborted + 1]func(s stand, reply int) (stand, bool) {
	return [...]func(s stand, reply int) (stand, bool){
		api.Running:   stand.running,
		api.Undoing:   stand.undoing,
		api.Committed: stand.over,
		api.Aborted:   stand.over,
	}
}

// moved is where a reply moves the saga; false, if it moves nothing.
func (s stand) moved(reply int) (stand, bool) {
	return moves()[s.State](s, reply)
}

func (s stand) running(reply int) (stand, bool) {
	switch {
	case reply == api.Done && s.Step == s.Steps:
		return s.at(api.Committed, 0), true
	case reply == api.Done:
		return s.at(api.Running, s.Step+1), true
	case reply == api.Never:
		return s.back(), true
	}
	return s, false
}

// undoing takes no Never: a step that was done must be taken back.
func (s stand) undoing(reply int) (stand, bool) {
	if reply != api.Done {
		return s, false
	}
	return s.back(), true
}

func (s stand) over(reply int) (stand, bool) { return s, false }

// back is where the step ahead is to be taken back next.
func (s stand) back() stand {
	if s.Step == 1 {
		return s.at(api.Aborted, 0)
	}
	return s.at(api.Undoing, s.Step-1)
}

// at is the saga in another state. What it was asked for in vain is forgotten there.
func (s stand) at(state, step int) stand {
	return stand{Id: s.Id, State: state, Step: step, Steps: s.Steps}
}

// putOff is the saga behind an asking in vain. Each one in a row doubles the wait, up to the pause.
func (s stand) putOff(clock, pause int) stand {
	doubled := 1 << min(s.Tries, bits.Len(uint(pause))) // so often doubled it is greater than the pause, however many there were
	s.Tries++
	s.Due = clock + min(doubled, pause)
	return s
}

// open: is there anything to be asked for?
func (s stand) open() bool {
	return s.State == api.Running || s.State == api.Undoing
}
