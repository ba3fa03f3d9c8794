// Package record lays the journal's records down in blocks.
package record

import "sagas/api"

// kind tells records apart; it is the first byte of each.
type kind byte

const (
	_    kind = iota // a block of noughts holds no record
	head             // there is a journal
)

// mark is what no other device has by chance where a journal has its head.
const mark = "sagas: a journal, form 1"

// What stands where in a head. All of it is in the first sector: a failure of power leaves a head whole, or none.
const (
	kindAt  = 0
	countAt = 1
	markAt  = 3
)

// Block is what a block holds: an array, so that handing it on is a copy.
type Block [api.Block]byte

// Part is a piece of the block. Its capacity ends where it ends, so that nothing that is put into it runs on into what stands behind it.
func (b *Block) Part(from, size int) []byte {
	return b[from : from+size : from+size]
}

// Head is the record by which a journal on a device of so many blocks is known.
func Head(blocks int) Block {
	var b Block
	b[kindAt] = byte(head)
	copy(b.Part(countAt, markAt-countAt), []byte{byte(blocks >> 8), byte(blocks)})
	copy(b.Part(markAt, len(mark)), mark)
	return b
}
