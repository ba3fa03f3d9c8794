// Package sagas: what is done step by step, or taken back step by step, whatever fails: see DOC.md.
package sagas

import (
	"sagas/api"
	"sagas/journal"
	"sagas/volume"
)

// Format lays an empty journal on a device (P3).
func Format(d api.Device) error {
	v, err := volume.New(d)
	if err == nil {
		err = journal.Lay(v)
	}
	return wrapped("Format", err)
}

// Engine runs sagas by a journal.
type Engine struct {
	volume *volume.Volume
	pause  int
	call   func(c api.Call) int
}

// Open reads the journal that is on a device (P4); call asks a partner.
func Open(d api.Device, pause int, call func(c api.Call) int) (*Engine, error) {
	if pause < 1 || pause > api.MaxPause {
		return nil, wrapped("Open", api.ErrConfig)
	}
	v, err := volume.New(d)
	if err == nil {
		err = journal.Find(v)
	}
	if err != nil {
		return nil, wrapped("Open", err)
	}
	return &Engine{v, pause, call}, nil
}

// Submit takes a saga (P5).
func (x *Engine) Submit(id int, steps []api.Step) error { return nil }

// Tick is one tick of the clock (P6).
func (x *Engine) Tick() error { return nil }

// Status tells of a saga (P7).
func (x *Engine) Status(id int) (api.Status, error) { return api.Status{}, nil }

// All goes through the sagas (P7).
func (x *Engine) All() func(yield func(s api.Status) bool) {
	return func(yield func(s api.Status) bool) {}
}

// wrapped says in which call something was wrong.
func wrapped(op string, err error) error {
	if err == nil {
		return nil
	}
	return &api.Fault{Op: op, E: err}
}
