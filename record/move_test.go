package record

import (
	"testing"

	"sagas/api"
)

// moves are some of all ids that differ in one byte or the other.
func moves() []Move {
	var out []Move
	for _, id := range []int{1, 2, 255, 256, 257, 999, api.MaxId} {
		out = append(out, Move{id, api.Done}, Move{id, api.Never})
	}
	return out
}

func TestMovesAreReadAsTheyWereLaid(t *testing.T) {
	seen := map[Block]bool{}
	for _, m := range moves() {
		b := m.Block()
		if got, ok := readMove(b); !ok || got != m || !Whole(b) {
			t.Errorf("%v is read as %v, %v", m, got, ok)
		}
		if seen[b] {
			t.Errorf("%v has the record of another", m)
		}
		seen[b] = true
	}
}

// P8: of a move of which a sector is missing nothing is left.
func TestAMoveWithoutASectorIsNotWhole(t *testing.T) {
	for _, m := range moves() {
		for _, b := range cuts(m.Block()) {
			if Whole(b) {
				t.Errorf("what is left of the record of %v is whole: %v", m, b)
			}
		}
	}
}

func TestBlocksThatAreNoMove(t *testing.T) {
	for _, m := range moves() {
		for at := range api.Block {
			b := m.Block()
			b[at] ^= 0x55
			got, ok := readMove(b)
			if ok && (got == m || got.Block() != b) {
				t.Errorf("byte %d of %v is wrong: %v", at, m, got)
			}
			if ok && at > 1+replyAt {
				t.Errorf("byte %d of %v says nothing: %v", at, m, got)
			}
			if !ok && got != (Move{}) {
				t.Errorf("what is no move is read as %v", got)
			}
		}
	}
	if m, ok := readMove(Block{}); ok || m != (Move{}) {
		t.Errorf("noughts are read as %v", m)
	}
	if m, ok := readMove(made(t, 1, api.Step{}).Block()); ok || m != (Move{}) {
		t.Errorf("a saga is read as %v", m)
	}
}
