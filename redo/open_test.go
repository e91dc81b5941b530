package redo_test

import (
	"bytes"
	"fmt"
	"math"
	"slices"
	"testing"

	"tenancy/api"
	"tenancy/disk"
	"tenancy/head"
	"tenancy/lap"
	"tenancy/redo"
)

// wantNoLog fails the test unless Open answers none, and this error.
func wantNoLog(t *testing.T, name string, d *disk.Disk, n int, want api.Errno) {
	t.Helper()
	if l, e := redo.Open(d, n); l != nil || e != want {
		t.Errorf("%s: a ring of %d: %v, error %d, want none, %d", name, n, l, e, want)
	}
}

// epochOf answers the epoch with which a disk's log writes; the log has a free ring.
func epochOf(t *testing.T, d *disk.Disk, n int) uint64 {
	t.Helper()
	wantErr(t, "Write", open(t, d, n).Write(puts(1, 0)), api.OK)
	b, _ := d.Read(d.Waits()[0])
	p, e := lap.Unseal(b)
	wantErr(t, "Unseal", e, api.OK)
	return p.Epoch
}

// TestOpenSizes is P6.1 and P6.3: which rings a disk has room for, and how many homes are left; a new disk has a free ring and homes of noughts.
func TestOpenSizes(t *testing.T) {
	for _, size := range []int{1, 2, 3, 4, 5, 6, 7, 16, 4095, 4096} {
		d := newDisk(t, size)
		for n := -3; n <= 20; n++ {
			if n < 2 || n+3 > size {
				wantNoLog(t, "no room", d, n, api.ErrArg)
				continue
			}
			l := open(t, d, n)
			wantFree(t, "new", l, n)
			if l.Homes() != size-n-2 {
				t.Errorf("size %d, a ring of %d: %d homes", size, n, l.Homes())
			}
			wantHomes(t, "new", l, sectors(t, newDisk(t, size))[2+n:])
		}
		for _, n := range []int{size - 2, size - 1, size, size + 1, 1 << 32, math.MaxInt, math.MaxInt - 1, math.MaxInt - 2, math.MaxInt - 3, math.MinInt, math.MinInt + 1, -size} {
			wantNoLog(t, "no room", d, n, api.ErrArg)
		}
		if size >= 5 {
			if l := open(t, d, size-3); l.Homes() != 1 {
				t.Errorf("size %d: %d homes, want 1", size, l.Homes())
			}
		}
	}
}

// TestOpenNoDisk is P6.3 and R1: ErrNil of no disk, whatever the ring.
func TestOpenNoDisk(t *testing.T) {
	for _, d := range []*disk.Disk{nil, {}} {
		for _, n := range []int{-1, 0, 1, 2, 6, 4093, 4094, math.MinInt, math.MaxInt} {
			wantNoLog(t, "no disk", d, n, api.ErrNil)
		}
	}
}

// ended answers a sector with these epochs at its ends, whatever stands between; it is no piece's where they differ.
func ended(ahead, behind uint64) []byte {
	b := bytes.Repeat([]byte{0x5A}, 128)
	for i := range 3 {
		b[i], b[120+i] = byte(ahead>>(16-8*i)), byte(behind>>(16-8*i))
	}
	return b
}

// TestOpenEpoch is P6.3: a log's epoch is one above the greatest at an end of any sector of heads or ring, though that is no piece's; homes count for nothing.
func TestOpenEpoch(t *testing.T) {
	const n, size = 3, 8
	for i := range size {
		for _, x := range []uint64{1, 2, 0x0000FF, 0x00FFFF, 0x010203, maxEpoch - 1} {
			for _, b := range [][]byte{ended(x, 0), ended(0, x), ended(x, x-1), ended(x-1, x), ended(x, x)} {
				d := newDisk(t, size)
				for k := range 2 + n {
					write(t, d, k, ended(1, 0))
				}
				write(t, d, i, b)
				wantErr(t, "Flush", d.Flush(), api.OK)
				want := x + 1
				if i >= 2+n {
					want = 2
				}
				if got := epochOf(t, d, n); got != want {
					t.Fatalf("epoch %d at sector %d: the log has %d, want %d", x, i, got, want)
				}
			}
		}
	}
}

// TestOpenEpochLasts is P6.3: life behind life has one epoch more, where something of the last one is to be seen, and the same one again, where nothing is.
func TestOpenEpochLasts(t *testing.T) {
	d := newDisk(t, 16)
	for life := range uint64(12) {
		for range 3 {
			if e := epochOf(t, d, 6); e != 1+life {
				t.Fatalf("life %d: epoch %d", life, e)
			}
			d.Crash(nil, 0)
		}
		l := open(t, d, 6)
		switch life % 3 {
		case 0:
			wantErr(t, "Write", l.Write(puts(1, 1)), api.OK)
			// Three bytes of the second piece are all that is to be seen of this life.
			d.Crash(nil, 3)
		case 1:
			wantErr(t, "Checkpoint", l.Checkpoint(), api.OK)
		case 2:
			wantErr(t, "Write", l.Write(puts(1, 1)), api.OK)
			d.Crash([]int{0, 1}, 0)
			wantErr(t, "Checkpoint", open(t, d, 6).Checkpoint(), api.OK)
			d = newDisk(t, 16)
			write(t, d, 0, ended(life+1, 0))
			wantErr(t, "Flush", d.Flush(), api.OK)
		}
	}
}

// TestOpenFull is P6.3: ErrFull, where the last epoch is at any end of heads or ring; ErrArg is named ahead of it.
func TestOpenFull(t *testing.T) {
	const n, size = 3, 8
	for i := range size {
		for _, b := range [][]byte{ended(maxEpoch, 0), ended(0, maxEpoch), ended(maxEpoch, maxEpoch), sealed(t, lap.Piece{Epoch: maxEpoch, Count: 7})} {
			d := newDisk(t, size)
			write(t, d, i, b)
			wantNoLog(t, "no ring", d, 1, api.ErrArg)
			wantNoLog(t, "no home", d, size-2, api.ErrArg)
			if i < 2+n {
				wantNoLog(t, "the last epoch", d, n, api.ErrFull)
			} else {
				open(t, d, n)
			}
			wantWaits(t, "Open", d, i)
		}
	}
}

// TestOpenNothing is P6.2: rings that say nothing: noughts (a piece of epoch 0), junk, a Head alone.
func TestOpenNothing(t *testing.T) {
	for _, kind := range []string{"noughts", "junk", "a Head alone", "a Head and noughts of count 0"} {
		d := newDisk(t, 16)
		for i := range d.Size() {
			if kind == "junk" {
				write(t, d, i, bytes.Repeat([]byte{0x77}, 128))
			}
		}
		switch kind {
		case "a Head alone":
			save(t, d, 3, head.Head{Gen: 5, Tail: 77, Floor: 3})
		case "a Head and noughts of count 0":
			save(t, d, 3, head.Head{Gen: 5})
		}
		wantFree(t, kind, open(t, d, 6), 6)
		wantSays(t, kind, d, 6)
	}
}

// TestOpenNoughtsAreNone is P6.2: without a Head the Floor is 1: a transaction of epoch 0 at count 0 is not done, one of epoch 1 is; with a Head of Floor 0 both are.
func TestOpenNoughtsAreNone(t *testing.T) {
	for _, headed := range []bool{false, true} {
		for epoch := range uint64(3) {
			d := newDisk(t, 16)
			if headed {
				save(t, d, 2, head.Head{Gen: 2})
			}
			lay(t, d, 6, piecesOf(epoch, 0, recordOf(puts(3, 4)))...)
			want := 4
			if !headed && epoch == 0 {
				want = 6
			}
			wantFree(t, "epoch", open(t, d, 6), want)
			wantSays(t, "epoch", d, 6)
		}
	}
}

// TestOpenFloor is P6.2: a record's epoch is not below the Head's Floor, nor below that of the record ahead of it.
func TestOpenFloor(t *testing.T) {
	for floor := range uint64(4) {
		for a := range uint64(5) {
			for b := range uint64(5) {
				for c := range uint64(5) {
					d := newDisk(t, 2+9+4)
					save(t, d, 4, head.Head{Gen: 8, Tail: 13, Floor: floor})
					done := 0
					for i, epoch := range []uint64{a, b, c} {
						lay(t, d, 9, piecesOf(epoch, uint64(13+2*i), recordOf(puts(i, i)))...)
					}
					switch {
					case floor > a:
					case a > b:
						done = 1
					case b > c:
						done = 2
					default:
						done = 3
					}
					wantFree(t, "floor", open(t, d, 9), 9-2*done)
					wantSays(t, "floor", d, 9)
				}
			}
		}
	}
}

// TestOpenTail is P6.2: the ring is read from the Head's Tail on, around, by its places.
func TestOpenTail(t *testing.T) {
	for n := 4; n <= 7; n++ {
		for _, tail := range []uint64{0, 1, 2, 3, 5, 12, 255, 256, 1 << 32, maxCount - 9, maxCount - 3} {
			d := newDisk(t, 2+n+3)
			save(t, d, 4, head.Head{Gen: 3, Tail: tail, Floor: 2})
			lay(t, d, n, piecesOf(2, tail, recordOf(puts(1, 2)))...)
			lay(t, d, n, piecesOf(2, tail+2, recordOf(puts(2, 1)))...)
			wantFree(t, "tail", open(t, d, n), n-4)
			wantSays(t, "tail", d, n)
			save(t, d, 4, head.Head{Gen: 4, Tail: tail + 2, Floor: 2})
			wantFree(t, "tail behind one", open(t, d, n), n-2)
			wantSays(t, "tail behind one", d, n)
			save(t, d, 4, head.Head{Gen: 5, Tail: tail + 1, Floor: 2})
			wantFree(t, "tail within one", open(t, d, n), n)
			wantSays(t, "tail within one", d, n)
		}
	}
}

// TestOpenLastCount is P6.2: what the last count ends is the last transaction.
func TestOpenLastCount(t *testing.T) {
	d := newDisk(t, 2+5+3)
	save(t, d, 4, head.Head{Gen: 3, Tail: maxCount - 1, Floor: 2})
	lay(t, d, 5, piecesOf(2, maxCount-1, recordOf(puts(1, 2)))...)
	wantFree(t, "the last count", open(t, d, 5), 3)
	wantSays(t, "the last count", d, 5)
	// Behind the last count none comes, also not 0 at the place that would be next.
	for i, p := range piecesOf(2, 0, recordOf(puts(1, 1))) {
		write(t, d, 2+(maxCount+1+i)%5, sealed(t, p))
	}
	wantFree(t, "the last count", open(t, d, 5), 3)
	wantSays(t, "the last count", d, 5)
}

// broken answers, by name, pieces of which the record of the last two Puts (counts 5 to 7) is none, though that ahead of it is (3 and 4), and the one behind as well (8 and 9).
func broken() map[string][]lap.Piece {
	m := map[string][]lap.Piece{}
	change := func(name string, f func(l []lap.Piece)) {
		l := piecesOf(4, 5, recordOf(puts(5, 1, 0)))
		f(l)
		m[fmt.Sprint(name, " ", len(m))] = l
	}
	for i := range 3 {
		for _, c := range []uint64{0, 3, 4, 5, 6, 7, 8, 15, 5 + 1<<32} {
			if c != uint64(5+i) {
				change("another count", func(l []lap.Piece) { l[i].Count = c })
			}
		}
		for _, x := range []uint64{0, 3, 5, 4 + 1<<16} {
			change("another epoch", func(l []lap.Piece) { l[i].Epoch = x })
		}
		change("First turned round", func(l []lap.Piece) { l[i].First = !l[i].First })
		change("Last turned round", func(l []lap.Piece) { l[i].Last = !l[i].Last })
		change("fewer bytes", func(l []lap.Piece) { l[i].Data = l[i].Data[:len(l[i].Data)-1] })
		change("no bytes", func(l []lap.Piece) { l[i].Data = nil })
		change("as noughts", func(l []lap.Piece) { l[i] = lap.Piece{} })
	}
	change("all below the floor", func(l []lap.Piece) {
		for i := range l {
			l[i].Epoch = 3
		}
	})
	change("First nowhere", func(l []lap.Piece) { l[0].First = false })
	change("a byte more", func(l []lap.Piece) { l[2].Data = append(slices.Clone(l[2].Data), 0) })
	change("one Put fewer", func(l []lap.Piece) { l[0].Data[0]-- })
	change("one Put more", func(l []lap.Piece) { l[0].Data[0]++ })
	change("no Put", func(l []lap.Piece) { l[0].Data[0] = 0 })
	change("255 Puts", func(l []lap.Piece) { l[0].Data[0] = 255 })
	return m
}

// TestOpenBroken is P6.2: where a ring's next record has one thing that is wrong it ends, and what lies behind is not done.
func TestOpenBroken(t *testing.T) {
	for name, l := range broken() {
		d := newDisk(t, 2+10+3)
		save(t, d, 4, head.Head{Gen: 3, Tail: 3, Floor: 4})
		ahead := puts(1, 2)
		lay(t, d, 10, piecesOf(4, 3, recordOf(ahead))...)
		lay(t, d, 10, piecesOf(4, 8, recordOf(puts(9, 1)))...)
		for i, p := range l {
			write(t, d, 2+5+i, sealed(t, p))
		}
		log := open(t, d, 10)
		wantFree(t, name, log, 8)
		wantHomes(t, name, log, with(sectors(t, d)[12:], ahead))
		wantSays(t, name, d, 10)
		lay(t, d, 10, piecesOf(4, 5, recordOf(puts(5, 1, 0)))...)
		wantFree(t, "mended", open(t, d, 10), 3)
		wantSays(t, "mended", d, 10)
	}
}

// TestOpenNoTransaction is P6.2: a record that is whole, but no transaction's, ends what is said.
func TestOpenNoTransaction(t *testing.T) {
	odd, even := recordOf(puts(1, 1)), recordOf(puts(1, 1, 0))
	rest := slices.Clone(odd)
	rest[len(rest)-1] |= 1
	l := map[string][]byte{
		"no bytes":           {},
		"one byte":           {1},
		"no Puts":            {0},
		"a home twice":       recordOf(puts(1, 1, 1)),
		"a home that is not": recordOf(puts(1, 3)),
		"one behind":         recordOf(puts(1, 0, 3)),
		"the last number":    recordOf(puts(1, 4095)),
		"25 Puts":            recordOf(puts(1, row(25)...)),
		"a bit behind":       rest,
		"a byte behind":      append(slices.Clone(odd), 0),
		"a byte behind two":  append(slices.Clone(even), 0),
		"a byte less":        odd[:len(odd)-1],
		"a byte less of two": even[:len(even)-1],
		"all noughts":        make([]byte, 131),
	}
	for name, record := range l {
		d := newDisk(t, 2+40+3)
		pieces := []lap.Piece{{Epoch: 1, First: true, Last: true}}
		if len(record) > 0 {
			pieces = piecesOf(1, 0, record)
		}
		lay(t, d, 40, pieces...)
		lay(t, d, 40, piecesOf(1, uint64(len(pieces)), odd)...)
		wantFree(t, name, open(t, d, 40), 40)
		wantSays(t, name, d, 40)
	}
	d := newDisk(t, 2+40+30)
	lay(t, d, 40, piecesOf(1, 0, recordOf(puts(1, row(24)...)))...)
	wantFree(t, "24 Puts", open(t, d, 40), 10)
	wantSays(t, "24 Puts", d, 40)
}

// TestOpenAround is P6.2: all pieces from the Tail on are as many as the ring has at most, also where the ring is full of pieces without an end.
func TestOpenAround(t *testing.T) {
	for n := 2; n <= 8; n++ {
		d := newDisk(t, 2+n+3)
		save(t, d, 1, head.Head{Gen: 1, Tail: 20, Floor: 1})
		for i := range uint64(n) {
			lay(t, d, n, lap.Piece{Epoch: 1, Count: 20 + i, First: i == 0, Data: make([]byte, 106)})
		}
		wantFree(t, "without an end", open(t, d, n), n)
		wantSays(t, "without an end", d, n)
		l := piecesOf(1, 20, recordOf(puts(1, row(3)...)))
		lay(t, d, n, l...)
		want := n
		if n >= len(l) {
			want -= len(l)
		}
		wantFree(t, "four pieces", open(t, d, n), want)
		wantSays(t, "four pieces", d, n)
	}
}

// TestOpenWithoutPower is P6.3: Open makes no step of the disk, and does without power.
func TestOpenWithoutPower(t *testing.T) {
	d := newDisk(t, 12)
	wantErr(t, "Write", open(t, d, 6).Write(puts(1, 2)), api.OK)
	wantErr(t, "Fuse", d.Fuse(0), api.OK)
	wantSays(t, "with a fuse", d, 6)
	if !d.Live() {
		t.Error("Open made a step")
	}
	wantErr(t, "Flush", d.Flush(), api.ErrDead)
	wantSays(t, "without power", d, 6)
	wantErr(t, "Write", open(t, d, 6).Write(puts(1, 2)), api.ErrDead)
}
