// Package journal keeps a journal on a volume: a head in its first block, and records in those behind it.
package journal

import (
	"sagas/api"
	"sagas/record"
	"sagas/volume"
)

const headAt = 0

// Lay lays an empty journal. A failure of power must leave no head ahead of records of which some are wiped: so the old head is gone ahead of the first of them, and the new one comes behind the last.
func Lay(v *volume.Volume) error {
	return volume.Try(func() error {
		v.Store(headAt, record.Block{})
		v.Secure()
		for i := headAt + 1; i < v.Blocks(); i++ {
			v.Store(i, record.Block{})
		}
		v.Secure()
		v.Store(headAt, record.Head(v.Blocks()))
		v.Secure()
		return nil
	})
}

// Find looks for a journal: ErrCorrupt, if there is none.
func Find(v *volume.Volume) error {
	return volume.Try(func() error {
		if v.Load(headAt) != record.Head(v.Blocks()) {
			return api.ErrCorrupt
		}
		return nil
	})
}
