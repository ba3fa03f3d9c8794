package record

import (
	"bytes"
	"testing"

	"sagas/api"
)

func TestPartEndsWhereItEnds(t *testing.T) {
	var b Block
	p := b.Part(10, 4)
	if len(p) != 4 || cap(p) != 4 {
		t.Fatalf("a part of 4 bytes has length %d, capacity %d", len(p), cap(p))
	}
	p[0] = 1
	if b[10] != 1 {
		t.Error("a part is not a piece of its block")
	}
	_ = append(p, 9)
	if b[14] != 0 {
		t.Error("what was put behind a part runs on into its block")
	}
}

// P3: a head that a failure of power cuts through would be neither old nor new.
func TestHeadIsInOneSector(t *testing.T) {
	for _, n := range []int{api.MinBlocks, 20, 255, 256, api.MaxBlocks} {
		b := Head(n)
		if !bytes.Equal(b[api.Sector:], make([]byte, api.Block-api.Sector)) {
			t.Errorf("the head of %d blocks is in more than one sector", n)
		}
		if b == (Block{}) {
			t.Errorf("the head of %d blocks is noughts", n)
		}
	}
}

func TestHeadsDiffer(t *testing.T) {
	seen := map[Block]int{}
	for n := api.MinBlocks; n <= api.MaxBlocks; n++ {
		if m, ok := seen[Head(n)]; ok {
			t.Errorf("%d and %d blocks have one head", m, n)
		}
		seen[Head(n)] = n
	}
}

func TestNoRecordIsWhole(t *testing.T) {
	if Whole(Block{}) || Whole(Head(20)) || Whole(laid(head, body{})) || Whole(laid(move+1, body{})) {
		t.Error("noughts, a head, or what is of no kind, are taken for a record")
	}
	for _, k := range []kind{saga, move} {
		for _, other := range []kind{0, head, saga + move - k, move + 1} {
			for i := range sectors {
				b := laid(k, body{})
				if !Whole(b) {
					t.Errorf("a record of kind %d is not whole", k)
				}
				b[i*api.Sector] = byte(other)
				if Whole(b) {
					t.Errorf("a record of kind %d whose sector %d is of kind %d is whole", k, i, other)
				}
			}
		}
	}
}

// cuts are what a failure of power may leave of a record in a block of noughts, but all of it.
func cuts(whole Block) []Block {
	var out []Block
	for keep := range 1<<sectors - 1 {
		var b Block
		for i := range sectors {
			if keep>>i&1 == 1 {
				copy(b.Part(i*api.Sector, api.Sector), whole.Part(i*api.Sector, api.Sector))
			}
		}
		out = append(out, b)
	}
	return out
}

func TestReadHandsEachKindOn(t *testing.T) {
	for _, says := range []bool{true, false} {
		var sagas []Saga
		var moves []Move
		take := func(s Saga) bool { sagas = append(sagas, s); return says }
		follow := func(m Move) bool { moves = append(moves, m); return says }
		s, m := made(t, 7, api.Step{Do: "a"}), Move{Id: 8, Reply: api.Never}
		if Read(s.Block(), take, follow) != says || Read(m.Block(), take, follow) != says {
			t.Errorf("Read does not say what was said: %v", says)
		}
		if len(sagas) != 1 || sagas[0] != s || len(moves) != 1 || moves[0] != m {
			t.Errorf("Read handed on %v and %v", sagas, moves)
		}
	}
}

// What is whole and says nothing is handed to nobody.
func TestReadOfWhatSaysNothing(t *testing.T) {
	for _, k := range []kind{saga, move} {
		for at := range len(body{}) {
			var said body
			said[at] = 255
			var handed []Block
			ok := Read(laid(k, said), func(s Saga) bool {
				handed = append(handed, s.Block())
				return true
			}, func(m Move) bool {
				handed = append(handed, m.Block())
				return true
			})
			if ok != (len(handed) == 1) || ok && handed[0] != laid(k, said) {
				t.Errorf("kind %d, byte %d: %v, handed on: %v", k, at, ok, handed)
			}
		}
	}
}
