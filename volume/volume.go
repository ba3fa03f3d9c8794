// Package volume is a device as the program uses it: what the device tells is thrown, and caught by Try.
package volume

import (
	"errors"
	"strconv"

	"sagas/api"
	"sagas/record"
)

// Volume is a device with a number of blocks that a journal may have.
type Volume struct {
	api.Device
	blocks int
}

// New takes a device: ErrSize, unless it has MinBlocks to MaxBlocks blocks.
func New(d api.Device) (*Volume, error) {
	n := count(d)
	if n < api.MinBlocks || n > api.MaxBlocks {
		return nil, api.ErrSize
	}
	return &Volume{d, n}, nil
}

// count asks a device for its blocks: one that cannot even tell (a nil one) has none.
func count(d api.Device) (n int) {
	defer func() {
		if recover() != nil {
			n = 0
		}
	}()
	return d.Blocks()
}

// Blocks stands ahead of the device's own, which may say something else each time.
func (v *Volume) Blocks() int { return v.blocks }

// Load reads a block. What the device gave is not kept: it may be the device's own memory.
func (v *Volume) Load(i int) record.Block {
	b, err := v.Read(i)
	if err != nil {
		throw("read of block " + strconv.Itoa(i))
	}
	var out record.Block
	copy(out[:], b)
	return out
}

// Store writes a block. The device gets memory that nobody else has: it may keep it, or write into it.
func (v *Volume) Store(i int, b record.Block) {
	if v.Write(i, b.Part(0, len(b))) != nil {
		throw("write of block " + strconv.Itoa(i))
	}
}

// Secure makes sure of all that was stored.
func (v *Volume) Secure() {
	if v.Flush() != nil {
		throw("flush")
	}
}

// trouble is what a volume throws: a type of its own, so that nothing that a device throws is taken for it.
type trouble struct {
	*api.Fault
}

// throw leaves what is being done, up to Try. What the device told is left behind: it may be, or wrap, any Errno, and ErrIO alone is to be found in the answer.
func throw(op string) {
	panic(&trouble{&api.Fault{Op: op, E: api.ErrIO}})
}

// Try does some work with a volume, and catches what is thrown in it.
func Try(work func() error) (err error) {
	defer func() {
		if thrown := recover(); thrown != nil {
			err = caught(thrown)
		}
	}()
	return work()
}

// caught is the error for what was thrown. What the volume did not throw came from the device too, and is answered alike.
func caught(thrown any) error {
	if err, ok := thrown.(error); ok {
		var t *trouble
		if errors.As(err, &t) {
			return t
		}
	}
	return api.ErrIO
}
