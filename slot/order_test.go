package slot_test

import (
	"math"
	"math/rand"
	"slices"
	"strings"
	"testing"

	"tenancy/api"
	"tenancy/slot"
)

// TestFree is P14.1: the zero one alone is free, and each part alone makes it another one.
func TestFree(t *testing.T) {
	if !slot.Free(slot.Slot{}) {
		t.Error("the zero Slot is not free")
	}
	if x := (slot.Slot{Data: strings.Repeat("a", 3)[:0]}); !slot.Free(x) {
		t.Error("the zero Slot with a text of no bytes is not free")
	}
	for _, x := range []slot.Slot{
		{Used: true},
		{Block: blockOf(1, 0, 0)},
		{Block: blockOf(0, 1, 0)},
		{Block: blockOf(0, 0, 1)},
		{Block: blockOf(-1, 0, 0)},
		{Block: blockOf(0, math.MinInt, 0)},
		{Block: blockOf(1<<32, 1<<32, 1<<32)},
		{Version: 1},
		{Version: 1 << 63},
		{Dirty: true},
		{Data: "a"},
		{Data: "\x00"},
		{Used: true, Dirty: true},
		least, small, full,
	} {
		if slot.Free(x) {
			t.Errorf("Free(%s): true", brief(x))
		}
	}
}

// TestFreeLikeModel is P14.1 of each edge of each part with each of each other one.
func TestFreeLikeModel(t *testing.T) {
	for _, x := range []slot.Slot{{}, least, small} {
		eachEdge(x, func(x slot.Slot) {
			if got, want := slot.Free(x), isZero(x); got != want {
				t.Errorf("Free(%s): %v, want %v", brief(x), got, want)
			}
		})
	}
}

// someNumbers are numbers of blocks' parts, also such as no block has: Order has an answer for all.
var someNumbers = []int{math.MinInt, math.MinInt + 1, math.MinInt32, -2, -1, 0, 1, 2, 40, 41, math.MaxInt32, 1 << 32, math.MaxInt - 1, math.MaxInt}

// someBlocks answers blocks of each three of these.
func someBlocks(l []int) []api.Block {
	var blocks []api.Block
	for _, ino := range l {
		for _, gen := range l {
			for _, at := range l {
				blocks = append(blocks, blockOf(ino, gen, at))
			}
		}
	}
	return blocks
}

// wantOrder fails the test unless blocks are in this order, either way.
func wantOrder(t *testing.T, a, b api.Block, want int) {
	t.Helper()
	if got := slot.Order(a, b); got != want {
		t.Errorf("Order(%+v, %+v): %d, want %d", a, b, got, want)
	}
	if got := slot.Order(b, a); got != -want {
		t.Errorf("Order(%+v, %+v): %d, want %d", b, a, got, -want)
	}
}

// TestOrder is P14.2 of blocks written out by hand.
func TestOrder(t *testing.T) {
	wantOrder(t, api.Block{}, api.Block{}, 0)
	wantOrder(t, blockOf(2, 1, 3), blockOf(2, 1, 3), 0)
	wantOrder(t, blockOf(2, 1, 3), blockOf(2, 1, 4), -1)
	wantOrder(t, blockOf(2, 1, 3), blockOf(2, 2, 0), -1)
	wantOrder(t, blockOf(2, 1, 3), blockOf(3, 0, 0), -1)
	wantOrder(t, blockOf(2, 9, 0), blockOf(3, 1, 7), -1)
	wantOrder(t, blockOf(2, 1, 7), blockOf(2, 9, 0), -1)
	wantOrder(t, blockOf(9, 0, 0), blockOf(10, 0, 0), -1)
	wantOrder(t, blockOf(40, math.MaxInt32, 7), blockOf(1, 0, 0), 1)
	wantOrder(t, blockOf(math.MinInt, 0, 0), blockOf(math.MaxInt, 0, 0), -1)
	wantOrder(t, blockOf(0, math.MinInt, 0), blockOf(0, math.MaxInt, 0), -1)
	wantOrder(t, blockOf(0, 0, math.MinInt), blockOf(0, 0, math.MaxInt), -1)
	wantOrder(t, blockOf(0, 0, -1), blockOf(0, 0, 0), -1)
}

// TestOrderEach is P14.2 of each two of many blocks: these rise by Ino, then by Gen, then by At.
func TestOrderEach(t *testing.T) {
	for _, l := range [][]int{{0, 1, 2, 3, 4, 5}, someNumbers[:7], someNumbers[7:], {math.MinInt, -1, 0, 1, math.MaxInt}} {
		blocks := someBlocks(l)
		for i, a := range blocks {
			for j, b := range blocks[:i] {
				wantOrder(t, b, a, -1)
				if j == 0 {
					wantOrder(t, a, a, 0)
				}
			}
		}
	}
}

// TestOrderIsOne is P14.3 of each three of some blocks: what is 0 is the same, and what is ahead of what is ahead is ahead.
func TestOrderIsOne(t *testing.T) {
	blocks := someBlocks([]int{math.MinInt, 0, 1, math.MaxInt})
	for _, a := range blocks {
		for _, b := range blocks {
			ab := slot.Order(a, b)
			if (ab == 0) != (a == b) || ab != -slot.Order(b, a) {
				t.Fatalf("Order(%+v, %+v): %d, the other way round %d", a, b, ab, slot.Order(b, a))
			}
			for _, c := range blocks {
				if ab < 0 && slot.Order(b, c) < 0 && slot.Order(a, c) >= 0 {
					t.Fatalf("%+v, %+v, %+v: the first is ahead of the second, that of the third, but not the first of the third", a, b, c)
				}
			}
		}
	}
}

// TestOrderSorts is P14.2 and P14.3: blocks that were mixed are sorted by it.
func TestOrderSorts(t *testing.T) {
	r := rand.New(rand.NewSource(3))
	want := someBlocks([]int{1, 2, 3, 10, 40})
	for range 100 {
		l := slices.Clone(want)
		r.Shuffle(len(l), func(i, j int) { l[i], l[j] = l[j], l[i] })
		slices.SortFunc(l, slot.Order)
		if !slices.Equal(l, want) {
			t.Fatalf("sorted: %v", l)
		}
	}
}
