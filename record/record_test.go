package record

import (
	"bytes"
	"testing"

	"sagas/api"
)

func TestPartEndsWhereItEnds(t *testing.T) {
	var b Block
	p := b.Part(10, 4)
	if len(p) != 4 || cap(p) != 4 {
		t.Fatalf("a part of 4 bytes has length %d, capacity %d", len(p), cap(p))
	}
	p[0] = 1
	if b[10] != 1 {
		t.Error("a part is not a piece of its block")
	}
	_ = append(p, 9)
	if b[14] != 0 {
		t.Error("what was put behind a part runs on into its block")
	}
}

// P3: a head that a failure of power cuts through would be neither old nor new.
func TestHeadIsInOneSector(t *testing.T) {
	for _, n := range []int{api.MinBlocks, 20, 255, 256, api.MaxBlocks} {
		b := Head(n)
		if !bytes.Equal(b[api.Sector:], make([]byte, api.Block-api.Sector)) {
			t.Errorf("the head of %d blocks is in more than one sector", n)
		}
		if b == (Block{}) {
			t.Errorf("the head of %d blocks is noughts", n)
		}
	}
}

func TestHeadsDiffer(t *testing.T) {
	seen := map[Block]int{}
	for n := api.MinBlocks; n <= api.MaxBlocks; n++ {
		if m, ok := seen[Head(n)]; ok {
			t.Errorf("%d and %d blocks have one head", m, n)
		}
		seen[Head(n)] = n
	}
}

func TestNoRecordIsWhole(t *testing.T) {
	if Whole(Block{}) || Whole(Head(20)) {
		t.Error("noughts, or a head, are taken for a record")
	}
	for i := range sectors {
		b := laid(saga, body{})
		b[i*api.Sector] = byte(head)
		if Whole(b) {
			t.Errorf("a record whose sector %d is of another kind is whole", i)
		}
	}
}
