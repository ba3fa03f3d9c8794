// Package sagas: what is done step by step, or taken back step by step, whatever fails: see DOC.md.
package sagas

import (
	"sagas/api"
	"sagas/journal"
	"sagas/record"
	"sagas/roll"
	"sagas/volume"
)

// Format lays an empty journal on a device (P3).
func Format(d api.Device) error {
	v, err := volume.New(d)
	if err == nil {
		err = journal.Lay(v)
	}
	return wrapped("Format", err)
}

// Engine runs sagas by a journal.
type Engine struct {
	journal *journal.Journal
	roll    *roll.Roll
	failed  bool // the device told an error: what it holds is not known any more
	clock   int
	pause   int
	call    func(c api.Call) int
}

// Open reads the journal that is on a device (P4); call asks a partner.
func Open(d api.Device, pause int, call func(c api.Call) int) (*Engine, error) {
	if pause < 1 || pause > api.MaxPause {
		return nil, wrapped("Open", api.ErrConfig)
	}
	v, err := volume.New(d)
	if err != nil {
		return nil, wrapped("Open", err)
	}
	r := roll.New(journal.Room(v))
	j, err := journal.Find(v, r.Take, r.Move)
	if err != nil {
		return nil, wrapped("Open", err)
	}
	return &Engine{journal: j, roll: r, pause: pause, call: call}, nil
}

// Submit takes a saga (P5).
func (x *Engine) Submit(id int, steps []api.Step) error {
	return wrapped("Submit", x.submit(id, steps))
}

func (x *Engine) submit(id int, steps []api.Step) error {
	if x.failed {
		return api.ErrFailed
	}
	s, err := record.NewSaga(id, steps)
	if err != nil {
		return err
	}
	if old, there := x.roll.Saga(id); there {
		if old != s {
			return api.ErrUsed
		}
		return nil
	}
	if !x.roll.Fits(s) {
		return api.ErrFull
	}
	if err := x.checked(x.journal.Add(s.Block())); err != nil {
		return err
	}
	x.roll.Take(s)
	return nil
}

// checked hands an error of the journal on. Behind one the engine has failed.
func (x *Engine) checked(err error) error {
	if err != nil {
		x.failed = true
	}
	return err
}

// Tick is one tick of the clock (P6).
func (x *Engine) Tick() error {
	return wrapped("Tick", x.tick())
}

func (x *Engine) tick() error {
	if x.failed {
		return api.ErrFailed
	}
	x.clock++
	for _, s := range x.roll.Statuses() {
		if c, due := x.roll.Next(s.Id, x.clock); due {
			if err := x.ask(c); err != nil {
				return err
			}
		}
	}
	return nil
}

// ask asks the partner for something, and does what its reply says.
func (x *Engine) ask(c api.Call) error {
	if err := x.checked(x.journal.Settle()); err != nil {
		return err
	}
	reply := x.reply(c)
	// The partner may have called the engine meanwhile: then this reply may have come too late.
	if x.failed {
		return api.ErrFailed
	}
	if next, _ := x.roll.Next(c.Saga, x.clock); next != c {
		return nil
	}
	return x.follow(record.Move{Id: c.Saga, Reply: reply})
}

// reply is what the partner says. From one that panics nothing is known: it is asked again.
func (x *Engine) reply(c api.Call) (said int) {
	defer func() {
		if recover() != nil {
			said = api.Later
		}
	}()
	return x.call(c)
}

// follow makes sure of a move ahead of anything else; a reply that moves nothing puts the saga off.
func (x *Engine) follow(m record.Move) error {
	if !x.roll.Moves(m) {
		x.roll.PutOff(m.Id, x.clock, x.pause)
		return nil
	}
	if err := x.checked(x.journal.Add(m.Block())); err != nil {
		return err
	}
	x.roll.Move(m)
	return nil
}

// Status tells of a saga (P7).
func (x *Engine) Status(id int) (api.Status, error) {
	s, there := x.roll.Status(id)
	if !there {
		return api.Status{}, wrapped("Status", api.ErrNone)
	}
	return s, nil
}

// All goes through the sagas (P7). Each time that it is gone through it tells how they stood at the beginning, whatever is called on the way.
func (x *Engine) All() func(yield func(s api.Status) bool) {
	return func(yield func(s api.Status) bool) {
		for _, s := range x.roll.Statuses() {
			if !yield(s) {
				return
			}
		}
	}
}

// wrapped says in which call something was wrong.
func wrapped(op string, err error) error {
	if err == nil {
		return nil
	}
	return &api.Fault{Op: op, E: err}
}
