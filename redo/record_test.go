package redo_test

import (
	"bytes"
	"fmt"
	"math"
	"slices"
	"testing"

	"tenancy/api"
	"tenancy/lap"
	"tenancy/redo"
)

// wrongPuts answers, by name, what is no transaction of n homes (2 or more).
func wrongPuts(n int) map[string][]api.Put {
	l := map[string][]api.Put{
		"nil":                nil,
		"none":               {},
		"no Data":            {{At: 0}},
		"127 bytes":          {{At: 0, Data: make([]byte, 127)}},
		"129 bytes":          {{At: 0, Data: make([]byte, 129)}},
		"256 bytes":          {{At: 0, Data: make([]byte, 256)}},
		"the last no Data":   {put(0, 1), {At: 1}},
		"the first no Data":  {{At: 1}, put(0, 1)},
		"a home twice":       {put(1, 1), put(1, 2)},
		"the same Put twice": {put(1, 1), put(1, 1)},
		"home 0 twice":       {put(0, 1), put(0, 2)},
		"twice, not next":    {put(1, 1), put(0, 2), put(1, 3)},
		"25 of them":         puts(0, row(25)...),
		"25 of one home":     puts(0, make([]int, 25)...),
		"256 of them":        puts(0, row(256)...),
		"257 of them":        puts(0, row(257)...),
	}
	for _, at := range wrongPlaces(n) {
		if at < 0 || at >= n {
			l[fmt.Sprint("home ", at)] = puts(0, at)
			l[fmt.Sprint("home ", at, " behind")] = puts(0, 0, at)
			l[fmt.Sprint("home ", at, " ahead")] = puts(0, at, 0)
		}
	}
	return l
}

// TestNeed is P6.1 and P6.4: of each number of Puts the pieces that its record has, wherever their homes are.
func TestNeed(t *testing.T) {
	for n := 1; n <= 24; n++ {
		bits := 8 + n*(12+8*128)
		want := (bits + 8*106 - 1) / (8 * 106)
		for _, from := range []int{0, 1, 1000, 4096 - 24} {
			l := puts(n, row(n)...)
			for i := range l {
				l[i].At = from + (i+5)%n
			}
			if k := redo.Need(l); k != want || k != len(piecesOf(0, 0, recordOf(l))) {
				t.Errorf("Need of %d Puts: %d, want %d", n, k, want)
			}
		}
	}
	for n, want := range map[int]int{1: 2, 2: 3, 3: 4, 4: 5, 5: 7, 13: 16, 24: 30} {
		if k := redo.Need(puts(1, row(n)...)); k != want {
			t.Errorf("Need of %d Puts: %d, want %d", n, k, want)
		}
	}
}

// TestNeedHomes is P6.1: a home has 12 bits.
func TestNeedHomes(t *testing.T) {
	for at, want := range map[int]int{0: 2, 1: 2, 4091: 2, 4095: 2, 4096: 0, 4097: 0, -1: 0, -4096: 0, 8192: 0, 1 << 32: 0, math.MinInt: 0, math.MaxInt: 0} {
		if k := redo.Need(puts(1, at)); k != want {
			t.Errorf("Need of home %d: %d, want %d", at, k, want)
		}
	}
}

// TestNeedWrong is P6.4: 0 of what is no transaction.
func TestNeedWrong(t *testing.T) {
	for name, l := range wrongPuts(4096) {
		if k := redo.Need(l); k != 0 {
			t.Errorf("%s: %d", name, k)
		}
	}
}

// TestByHand is P6.1: the sectors of a transaction of two Puts, bit by bit where homes stand between bytes.
func TestByHand(t *testing.T) {
	d := newDisk(t, 2+4+3)
	before := sectors(t, d)
	l := open(t, d, 4)
	a, b := bytes.Repeat([]byte{0xAB}, 128), bytes.Repeat([]byte{0xCD}, 128)
	wantErr(t, "Write", l.Write([]api.Put{{At: 2, Data: a}, {At: 1, Data: b}}), api.OK)
	// Two Puts; home 2 in 12 bits, 128 times AB; home 1 in 12 bits, which begin in the midst of a byte, 128 times CD.
	record := []byte{2, 0, 0x2A}
	record = append(record, bytes.Repeat([]byte{0xBA}, 127)...)
	record = append(record, 0xB0, 0x01)
	record = append(record, b...)
	want := slices.Clone(before)
	for i, p := range []lap.Piece{
		{Epoch: 1, Count: 0, First: true, Data: record[:106]},
		{Epoch: 1, Count: 1, Data: record[106:212]},
		{Epoch: 1, Count: 2, Last: true, Data: record[212:]},
	} {
		want[2+i] = string(sealed(t, p))
	}
	wantSectors(t, "two Puts", d, want)
	wantWaits(t, "two Puts", d, 2, 3, 4)
}

// TestByHandOdd is P6.1: of an odd number of Puts a record has four noughts behind.
func TestByHandOdd(t *testing.T) {
	d := newDisk(t, 2+4+1)
	l := open(t, d, 4)
	wantErr(t, "Write", l.Write([]api.Put{{At: 0, Data: bytes.Repeat([]byte{0xFF}, 128)}}), api.OK)
	record := append([]byte{1, 0, 0x0F}, bytes.Repeat([]byte{0xFF}, 127)...)
	record = append(record, 0xF0)
	b, _ := d.Read(3)
	if p, e := lap.Unseal(b); e != api.OK || !bytes.Equal(p.Data, record[106:]) {
		t.Errorf("the last piece is %x, error %d, want %x", p.Data, e, record[106:])
	}
}

// TestPieces is P6.1: of each number of Puts the pieces, each at its place, around the ring, in order; nothing else is written.
func TestPieces(t *testing.T) {
	const ring, all = 31, 40
	d := newDisk(t, 2+ring+all)
	l := open(t, d, ring)
	next := uint64(0)
	for n := 1; n <= 24; n++ {
		list := puts(9*n, row(all)[all-n:]...)
		slices.Reverse(list)
		want, waits := sectors(t, d), []int{}
		for _, p := range piecesOf(1, next, recordOf(list)) {
			want[2+p.Count%ring] = string(sealed(t, p))
			waits = append(waits, 2+int(p.Count%ring))
		}
		next += uint64(len(waits))
		wantErr(t, "Write", l.Write(list), api.OK)
		wantSectors(t, "pieces", d, want)
		wantWaits(t, "pieces", d, waits...)
		wantErr(t, "Checkpoint", l.Checkpoint(), api.OK)
	}
	if next < 5*ring {
		t.Errorf("%d pieces only", next)
	}
}
