// Package journal keeps a journal on a volume: a head in its first block, and records in those behind it, one behind the other, up to a block that holds none.
package journal

import (
	"sagas/api"
	"sagas/record"
	"sagas/volume"
)

const headAt = 0

// Lay lays an empty journal. A failure of power must leave no head ahead of records of which some are wiped: so the old head is gone ahead of the first of them, and the new one comes behind the last.
func Lay(v *volume.Volume) error {
	return volume.Try(func() error {
		v.Store(headAt, record.Block{})
		v.Secure()
		for i := headAt + 1; i < v.Blocks(); i++ {
			v.Store(i, record.Block{})
		}
		v.Secure()
		v.Store(headAt, record.Head(v.Blocks()))
		v.Secure()
		return nil
	})
}

// Room is how many records a journal on a volume may have.
func Room(v *volume.Volume) int { return v.Blocks() - (headAt + 1) }

// Journal is one that was found.
type Journal struct {
	volume  *volume.Volume
	end     int  // the block of the next record
	settled bool // all records are sure, and noughts behind them
}

// Find reads the journal on a volume, and hands each saga to take, and each move to follow, in the order in which they were added: ErrCorrupt, if there is none, or one of the two says no. It changes nothing on the volume.
func Find(v *volume.Volume, take func(s record.Saga) bool, follow func(m record.Move) bool) (*Journal, error) {
	j := &Journal{volume: v, end: headAt + 1}
	err := volume.Try(func() error {
		if v.Load(headAt) != record.Head(v.Blocks()) {
			return api.ErrCorrupt
		}
		return j.read(func(b record.Block) bool { return record.Read(b, take, follow) })
	})
	if err != nil {
		return nil, err
	}
	return j, nil
}

// read goes on to the end of the records. That may be one that was cut off: then nothing was written behind it.
func (j *Journal) read(hand func(b record.Block) bool) error {
records:
	for ; j.end < j.volume.Blocks(); j.end++ {
		switch b := j.volume.Load(j.end); {
		case !record.Whole(b):
			break records
		case !hand(b):
			return api.ErrCorrupt
		}
	}
	for i := j.end + 1; i < j.volume.Blocks(); i++ {
		if j.volume.Load(i) != (record.Block{}) {
			return api.ErrCorrupt
		}
	}
	return nil
}

// Add adds a record, and makes sure of it. Behind an error nothing more may be added: of two records that are not sure a failure of power might leave the second one alone, and another one in the first one's place would bring it to light.
func (j *Journal) Add(b record.Block) error {
	if err := j.Settle(); err != nil {
		return err
	}
	return volume.Try(func() error {
		j.volume.Store(j.end, b)
		j.volume.Secure()
		j.end++
		return nil
	})
}

// Settle makes sure of what Find found, and wipes what was cut off behind it: sectors of that, and of a record in its place, could make up one that nobody added. There must be room for a record.
func (j *Journal) Settle() error {
	if j.settled {
		return nil
	}
	return volume.Try(func() error {
		j.volume.Store(j.end, record.Block{})
		j.volume.Secure()
		j.settled = true
		return nil
	})
}
