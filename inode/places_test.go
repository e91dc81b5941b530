package inode_test

import (
	"math"
	"math/rand"
	"slices"
	"testing"

	"tenancy/api"
	"tenancy/inode"
)

// wantPlaces fails the test unless an inode's blocks lie there.
func wantPlaces(t *testing.T, x inode.Inode, want ...int) {
	t.Helper()
	if l := inode.Places(x); !slices.Equal(l, want) {
		t.Errorf("Places(%+v): %d, want %d", x, l, want)
	}
	if n := inode.Used(x); n != len(want) {
		t.Errorf("Used(%+v): %d, want %d", x, n, len(want))
	}
}

// TestPlaces is P8.2: those that lie somewhere, in their order.
func TestPlaces(t *testing.T) {
	wantPlaces(t, inode.Inode{})
	wantPlaces(t, inode.Inode{Kind: api.KDir, Gen: 3, Version: 9})
	wantPlaces(t, inode.Inode{Kind: api.KFile, Blocks: [8]int{5, 0, 4095}}, 5, 4095)
	wantPlaces(t, inode.Inode{Kind: api.KFile, Blocks: [8]int{4095, 0, 5}}, 4095, 5)
	wantPlaces(t, inode.Inode{Kind: api.KDir, Blocks: [8]int{7: 42}}, 42)
	wantPlaces(t, inode.Inode{Kind: api.KFile, Blocks: [8]int{9, 8, 7, 6, 5, 4, 3, 2}}, 9, 8, 7, 6, 5, 4, 3, 2)
	wantPlaces(t, inode.Inode{Kind: api.KFile, Blocks: [8]int{0, 7, 0, 7, 0, 0, 7, 1}}, 7, 7, 7, 1)
	wantPlaces(t, full, 4095, 4095, 4095, 4095, 4095, 4095, 4095, 4095)
}

// TestPlacesOfNone is P8.2 of what is no inode, or has no sector: 0 alone is nowhere.
func TestPlacesOfNone(t *testing.T) {
	wantPlaces(t, inode.Inode{Kind: 3, Gen: -1, Version: math.MaxUint64})
	wantPlaces(t, inode.Inode{Blocks: [8]int{0, 42}}, 42)
	wantPlaces(t, inode.Inode{Kind: -1, Blocks: [8]int{-1, 0, 4096, math.MinInt, 1 << 12, math.MaxInt}}, -1, 4096, math.MinInt, 4096, math.MaxInt)
}

// TestPlacesEachChoice is P8.2 of each choice of blocks that lie somewhere, of each kind.
func TestPlacesEachChoice(t *testing.T) {
	r := rand.New(rand.NewSource(3))
	for choice := range 1 << 8 {
		for kind := range 3 {
			x := inode.Inode{Kind: kind, Gen: 1, Version: 1}
			var want []int
			for i := range 8 {
				if choice>>i&1 == 1 {
					x.Blocks[i] = 1 + r.Intn(4095)
					want = append(want, x.Blocks[i])
				}
			}
			wantPlaces(t, x, want...)
		}
	}
}

// TestPlacesAnswersNewMemory is R3: what is done to an answer changes no other one.
func TestPlacesAnswersNewMemory(t *testing.T) {
	x := inode.Inode{Kind: api.KFile, Blocks: [8]int{5, 0, 6, 7}}
	one, two := inode.Places(x), inode.Places(x)
	one[0], one[2] = 1, 1
	_ = append(one[:1], 2, 2)
	if !slices.Equal(two, []int{5, 6, 7}) {
		t.Errorf("an answer was changed by way of another one: %d", two)
	}
	wantPlaces(t, x, 5, 6, 7)
}
