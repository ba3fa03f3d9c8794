// Package record lays the journal's records down in blocks.
package record

import "sagas/api"

// kind tells records apart.
type kind byte

const (
	_    kind = iota // a sector of noughts is of no record
	head             // there is a journal
	saga             // a saga was taken
	move             // a saga moved
)

// mark is what no other device has by chance where a journal has its head.
const mark = "sagas: a journal, form 1"

// What stands where in a head. All of it is in the first sector: a failure of power leaves a head whole, or none.
const (
	kindAt  = 0
	countAt = 1
	markAt  = 3
)

// Block is what a block holds: an array, so that handing it on is a copy.
type Block [api.Block]byte

// Part is a piece of the block. Its capacity ends where it ends, so that nothing that is put into it runs on into what stands behind it.
func (b *Block) Part(from, size int) []byte {
	return b[from : from+size : from+size]
}

// Head is the record by which a journal on a device of so many blocks is known.
func Head(blocks int) Block {
	var b Block
	b[kindAt] = byte(head)
	copy(b.Part(countAt, markAt-countAt), []byte{byte(blocks >> 8), byte(blocks)})
	copy(b.Part(markAt, len(mark)), mark)
	return b
}

// Every other record fills its block: the first byte of each sector is its kind, the rest of them is its body.
const (
	sectors = api.Block / api.Sector
	share   = api.Sector - 1
)

// body is what a record says.
type body [sectors * share]byte

func (s *body) part(from, size int) []byte {
	return s[from : from+size : from+size]
}

// laid puts a body into a block of noughts. Of a record that a failure of power cuts through, the sectors that are missing lack their kind.
func laid(k kind, said body) Block {
	var b Block
	for i := range sectors {
		b[i*api.Sector] = byte(k)
		copy(b.Part(i*api.Sector+1, share), said.part(i*share, share))
	}
	return b
}

// read takes the body out of a block again.
func read(b Block) body {
	var said body
	for i := range sectors {
		copy(said.part(i*share, share), b.Part(i*api.Sector+1, share))
	}
	return said
}

// idAt is where the id of the saga of which a record speaks stands in its body: in two bytes.
const idAt = 0

func putId(said *body, id int) { said[idAt], said[idAt+1] = byte(id>>8), byte(id) }

func getId(said body) int { return int(said[idAt])<<8 | int(said[idAt+1]) }

// Whole: are all sectors of a record there? One that is not whole is none.
func Whole(b Block) bool {
	first := kind(b[kindAt])
	for i := range sectors {
		if kind(b[i*api.Sector]) != first {
			return false
		}
	}
	return first == saga || first == move
}

// Read hands what a whole record says to the function that takes what is of its kind; false, if it says nothing, or the function says no.
func Read(b Block, take func(s Saga) bool, follow func(m Move) bool) bool {
	if kind(b[kindAt]) == move {
		m, ok := readMove(b)
		return ok && follow(m)
	}
	s, ok := readSaga(b)
	return ok && take(s)
}
