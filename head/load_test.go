package head_test

import (
	"bytes"
	"fmt"
	"math/rand"
	"slices"
	"testing"

	"tenancy/api"
	"tenancy/disk"
	"tenancy/head"
)

// pair answers a disk with two sectors at 1, which last.
func pair(t testing.TB, even, odd []byte) *disk.Disk {
	t.Helper()
	d := filled(t, 4)
	put(t, d, 1, even)
	put(t, d, 2, odd)
	wantErr(t, "Flush", d.Flush(), api.OK)
	return d
}

// junk answers a sector that is no piece's.
func junk() []byte { return bytes.Repeat([]byte{0x5A}, 128) }

// TestLoad is P5.2: the head of the greater Gen, whatever its other parts and its epoch are, and whichever place it has.
func TestLoad(t *testing.T) {
	for _, even := range []uint64{0, 2, 4, 256, maxCount - 1} {
		for _, odd := range []uint64{1, 3, 5, 255, 257, maxCount} {
			for epoch := range uint64(3) {
				h := head.Head{Gen: even, Tail: 7 - epoch, Floor: 9 * epoch}
				g := head.Head{Gen: odd, Tail: 5 + epoch, Floor: 9}
				d := pair(t, sectorOf(epoch, h), sectorOf(1, g))
				want := h
				if odd > even {
					want = g
				}
				wantLoad(t, "two", d, 1, want)
			}
		}
	}
}

// TestLoadOne is P5.2: the one that is a Head, where the other one is none.
func TestLoadOne(t *testing.T) {
	for _, h := range edges() {
		for _, other := range [][]byte{make([]byte, 128), junk(), pieceOf(1, h.Gen^1, 3, 7, make([]byte, 7))} {
			d := pair(t, sectorOf(maxEpoch, h), other)
			if h.Gen%2 == 1 {
				d = pair(t, other, sectorOf(maxEpoch, h))
			}
			wantLoad(t, "one", d, 1, h)
		}
	}
}

// TestLoadPlace is P5.2: a Head at the other one's place counts for nothing, alone or beside one of a smaller Gen.
func TestLoadPlace(t *testing.T) {
	low, high := head.Head{Gen: 1, Tail: 2}, head.Head{Gen: 9, Tail: 3}
	wantNoHead(t, "odd at the even one's", pair(t, sectorOf(1, high), junk()), 1, api.OK)
	wantLoad(t, "odd at both", pair(t, sectorOf(1, high), sectorOf(1, low)), 1, low)
	low, high = head.Head{Gen: 0, Tail: 2}, head.Head{Gen: 8, Tail: 3}
	wantNoHead(t, "even at the odd one's", pair(t, junk(), sectorOf(1, high)), 1, api.OK)
	wantLoad(t, "even at both", pair(t, sectorOf(1, low), sectorOf(1, high)), 1, low)
	wantNoHead(t, "turned round", pair(t, sectorOf(1, head.Head{Gen: 1}), sectorOf(1, head.Head{Gen: 2})), 1, api.OK)
	d := pair(t, sectorOf(1, low), sectorOf(1, head.Head{Gen: 1}))
	wantNoHead(t, "a place ahead", d, 0, api.OK)
	wantNoHead(t, "a place behind", d, 2, api.OK)
}

// TestLoadNone is P5.2: none, and no error, where no sector is a Head: also of noughts, which are a piece's sector.
func TestLoadNone(t *testing.T) {
	wantNoHead(t, "noughts", newDisk(t, 2), 0, api.OK)
	wantNoHead(t, "junk", pair(t, junk(), junk()), 1, api.OK)
}

// notHeads answers sectors of a Gen that are no Head's, by name.
func notHeads(gen uint64) map[string][]byte {
	h := head.Head{Gen: gen, Tail: 3, Floor: 4}
	whole := sectorOf(5, h)
	l := map[string][]byte{
		"neither First nor Last": pieceOf(5, gen, 0, 8, dataOf(h)),
		"First alone":            pieceOf(5, gen, 1, 8, dataOf(h)),
		"Last alone":             pieceOf(5, gen, 2, 8, dataOf(h)),
		"no Data":                pieceOf(5, gen, 3, 0, nil),
		"seven bytes":            pieceOf(5, gen, 3, 7, dataOf(h)[:7]),
		"nine bytes":             pieceOf(5, gen, 3, 9, append(dataOf(h), 0)),
		"nine bytes, one more":   pieceOf(5, gen, 3, 9, append(dataOf(h), 1)),
		"all room":               pieceOf(5, gen, 3, 106, make([]byte, 106)),
		"a flag more":            pieceOf(5, gen, 7, 8, dataOf(h)),
		"bytes behind":           pieceOf(5, gen, 3, 8, append(dataOf(h), 1)),
		"another epoch behind":   slices.Concat(whole[:120], pieceOf(6, gen, 3, 0, nil)[120:]),
		"another Gen behind":     slices.Concat(whole[:120], pieceOf(5, gen^2, 3, 0, nil)[120:]),
	}
	for i := range whole {
		b := bytes.Clone(whole)
		b[i] ^= 1 << (i % 8)
		l[fmt.Sprint("another byte ", i)] = b
	}
	return l
}

// TestLoadNotHeads is P5.1 and P5.2: what differs in one thing from a Head's sector is none; a Head of a smaller Gen beside it is the one.
func TestLoadNotHeads(t *testing.T) {
	for name, b := range notHeads(8) {
		wantNoHead(t, name, pair(t, b, junk()), 1, api.OK)
		wantLoad(t, name, pair(t, b, sectorOf(1, head.Head{Gen: 7})), 1, head.Head{Gen: 7})
	}
	for name, b := range notHeads(9) {
		wantNoHead(t, name, pair(t, junk(), b), 1, api.OK)
		wantLoad(t, name, pair(t, sectorOf(1, head.Head{Gen: 8}), b), 1, head.Head{Gen: 8})
	}
}

// TestLoadWrong is P5.2: ErrArg where there are not both sectors, though one may be there; with power and without.
func TestLoadWrong(t *testing.T) {
	for _, n := range []int{1, 2, 4} {
		d := newDisk(t, n)
		put(t, d, n-1, sectorOf(1, head.Head{Gen: 4}))
		put(t, d, 0, sectorOf(1, head.Head{Gen: 5}))
		for _, at := range wrongPlaces(n) {
			wantNoHead(t, "with power", d, at, api.ErrArg)
		}
		wantErr(t, "Fuse", d.Fuse(0), api.OK)
		wantErr(t, "Flush", d.Flush(), api.ErrDead)
		for _, at := range wrongPlaces(n) {
			wantNoHead(t, "without power", d, at, api.ErrArg)
		}
	}
}

// TestLoadNoDisk is P5.2 and R1: ErrNil of no disk, whatever the place.
func TestLoadNoDisk(t *testing.T) {
	for _, d := range []*disk.Disk{nil, {}} {
		for _, at := range append(wrongPlaces(0), 0) {
			wantNoHead(t, "no disk", d, at, api.ErrNil)
		}
	}
}

// TestLoadChangesNothing is P5.2 and R3: Load makes no step of the disk, and does without power.
func TestLoadChangesNothing(t *testing.T) {
	d := newDisk(t, 2)
	h := head.Head{Gen: 3, Tail: 4, Floor: 5}
	save(t, d, 0, 1, h)
	g := head.Head{Gen: 4, Tail: 5, Floor: 6}
	put(t, d, 0, sectorOf(1, g))
	wantErr(t, "Fuse", d.Fuse(0), api.OK)
	before := all(t, d)
	for range 2 {
		wantLoad(t, "what waits is read", d, 0, g)
		wantSectors(t, "Load", d, before)
		if !d.Live() || !slices.Equal(d.Waits(), []int{0}) {
			t.Errorf("live: %t, %v wait", d.Live(), d.Waits())
		}
	}
	wantErr(t, "Flush", d.Flush(), api.ErrDead)
	wantLoad(t, "without power", d, 0, g)
	d.Crash(nil, 0)
	wantLoad(t, "what lasts is read", d, 0, h)
}

// TestLoadModel is P5.2: Load against what each of both sectors is by itself, of heads, wrong places, pieces, junk.
func TestLoadModel(t *testing.T) {
	r := rand.New(rand.NewSource(5))
	some := func() []byte {
		h := head.Head{Gen: r.Uint64() >> (24 + r.Intn(40)), Tail: r.Uint64() >> 24, Floor: r.Uint64() >> 40}
		b := sectorOf(r.Uint64()>>40, h)
		switch r.Intn(6) {
		case 0:
			b[r.Intn(128)]++
		case 1:
			b = pieceOf(1, h.Gen, byte(r.Intn(4)), byte(r.Intn(12)), nil)
		case 2:
			b = make([]byte, 128)
		}
		return b
	}
	heads := 0
	for range 3000 {
		even, odd := some(), some()
		d := pair(t, even, odd)
		if h, ok := wantOf(even, odd); ok {
			heads++
			wantLoad(t, "model", d, 1, h)
		} else {
			wantNoHead(t, "model", d, 1, api.OK)
		}
	}
	if heads < 1000 || heads > 2500 {
		t.Errorf("%d of 3000 had a head", heads)
	}
}

// FuzzLoad is P5.2 and R1: any two sectors, any place.
func FuzzLoad(f *testing.F) {
	f.Add(0, sectorOf(1, head.Head{Gen: 2, Tail: 3, Floor: 4}), sectorOf(1, head.Head{Gen: 3}))
	f.Add(1, junk(), make([]byte, 128))
	f.Fuzz(func(t *testing.T, at int, even, odd []byte) {
		d := newDisk(t, 3)
		if len(even) != 128 || len(odd) != 128 {
			return
		}
		put(t, d, 0, even)
		put(t, d, 1, odd)
		if h, ok := wantOf(even, odd); ok {
			wantLoad(t, "any", d, 0, h)
		} else {
			wantNoHead(t, "any", d, 0, api.OK)
		}
		if _, _, e := head.Load(d, at); (e == api.OK) != (at == 0 || at == 1) {
			t.Errorf("at %d: error %d", at, e)
		}
	})
}
