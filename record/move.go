package record

// Move is a reply that moved a saga: where to follows from where it stood.
type Move struct {
	Id, Reply int
}

// replyAt is where the reply stands in a move's body, behind the saga's id.
const replyAt = 2

// Block is the record of a move.
func (m Move) Block() Block {
	var said body
	putId(&said, m.Id)
	said[replyAt] = byte(m.Reply)
	return laid(move, said)
}

// readMove reads a move's record; false, if the block is not what Block would make of any move.
func readMove(b Block) (Move, bool) {
	said := read(b)
	m := Move{Id: getId(said), Reply: int(said[replyAt])}
	if m.Block() != b {
		return Move{}, false
	}
	return m, true
}
