package lap_test

import (
	"bytes"
	"encoding/binary"
	"math/rand"
	"testing"

	"tenancy/api"
	"tenancy/lap"
)

// sumOf answers the sum of bytes, told in another way than fletch does: what stands i places before the end is counted i times in the second half.
func sumOf(b []byte) uint32 {
	first, second := 0, 0
	for i, x := range b {
		first += int(x)
		second += (len(b) - i) * int(x)
	}
	return uint32(second%65535)<<16 | uint32(first%65535)
}

// sectorOf answers a sector of these parts, whether they are a piece's or not; its sum and both its stamps are right.
func sectorOf(stamp uint64, flags, size byte, body []byte) []byte {
	b := binary.BigEndian.AppendUint64(nil, stamp)
	b = append(b, flags, size)
	b = append(b, body...)
	b = append(b, make([]byte, 116-len(b))...)
	b = binary.BigEndian.AppendUint32(b, sumOf(b))
	return binary.BigEndian.AppendUint64(b, stamp)
}

// resum has a sector's sum be right.
func resum(b []byte) []byte {
	binary.BigEndian.PutUint32(b[116:], sumOf(b[:116]))
	return b
}

// wantSector answers the sector that a piece should have.
func wantSector(p lap.Piece) []byte {
	flags := byte(0)
	if p.First {
		flags = 1
	}
	if p.Last {
		flags += 2
	}
	return sectorOf(p.Epoch*counts+p.Count, flags, byte(len(p.Data)), p.Data)
}

// like tells whether two pieces are the same.
func like(p, q lap.Piece) bool {
	return p.Epoch == q.Epoch && p.Count == q.Count && p.First == q.First && p.Last == q.Last && bytes.Equal(p.Data, q.Data)
}

// seal answers a piece's sector.
func seal(t *testing.T, p lap.Piece) []byte {
	t.Helper()
	b, e := lap.Seal(p)
	if e != api.OK || len(b) != 128 {
		t.Fatalf("Seal of %+v: %x, error %d", p, b, e)
	}
	return b
}

// wantPiece fails the test unless a sector is this piece's.
func wantPiece(t *testing.T, name string, b []byte, want lap.Piece) {
	t.Helper()
	if p, e := lap.Unseal(b); e != api.OK || !like(p, want) {
		t.Errorf("%s: %+v, error %d, want %+v", name, p, e, want)
	}
}

// wantNoPiece fails the test unless bytes are no piece's sector.
func wantNoPiece(t *testing.T, name string, b []byte) {
	t.Helper()
	if p, e := lap.Unseal(b); e != api.ErrForm || !like(p, lap.Piece{}) {
		t.Errorf("%s: %+v, error %d: %x", name, p, e, b)
	}
}

// some answers n bytes; the same for the same seed.
func some(seed int64, n int) []byte {
	b := make([]byte, n)
	rand.New(rand.NewSource(seed)).Read(b)
	return b
}

// somePiece answers any piece.
func somePiece(r *rand.Rand) lap.Piece {
	p := lap.Piece{
		Epoch: uint64(r.Intn(maxEpoch + 1)),
		Count: uint64(r.Int63n(maxCount + 1)),
		First: r.Intn(2) == 0,
		Last:  r.Intn(2) == 0,
		Data:  make([]byte, r.Intn(107)),
	}
	r.Read(p.Data)
	return p
}

// edgePieces answers pieces at the edges that the chapter names, and each of them with each of the flags.
func edgePieces() []lap.Piece {
	l := []lap.Piece{}
	for _, s := range [][2]uint64{{0, 0}, {0, 1}, {1, 5}, {maxEpoch, maxCount}, {0, maxCount}, {maxEpoch, 0}} {
		for _, n := range []int{0, 1, 2, 105, 106} {
			for flags := range 4 {
				l = append(l, lap.Piece{Epoch: s[0], Count: s[1], First: flags&1 != 0, Last: flags&2 != 0, Data: bytes.Repeat([]byte{255}, n)})
			}
		}
	}
	return l
}

// TestSealByHand is P4.2: a sector that was made by hand.
func TestSealByHand(t *testing.T) {
	p := lap.Piece{Epoch: 0x010203, Count: 0x0405060708, First: true, Data: []byte("ab")}
	// 1 to 8, 1 and 2, 97 and 98, with weights from 116 on down.
	first := 1 + 2 + 3 + 4 + 5 + 6 + 7 + 8 + 1 + 2 + 97 + 98
	second := 116*1 + 115*2 + 114*3 + 113*4 + 112*5 + 111*6 + 110*7 + 109*8 + 108*1 + 107*2 + 106*97 + 105*98
	want := []byte{1, 2, 3, 4, 5, 6, 7, 8, 1, 2, 'a', 'b'}
	want = append(want, make([]byte, 104)...)
	want = append(want, byte(second>>8), byte(second), byte(first>>8), byte(first))
	want = append(want, 1, 2, 3, 4, 5, 6, 7, 8)
	if b := seal(t, p); !bytes.Equal(b, want) {
		t.Errorf("got %x, want %x", b, want)
	}
	wantPiece(t, "by hand", want, p)
}

// TestSeal is P4.2: the parts of a piece's sector, each at its place, and back.
func TestSeal(t *testing.T) {
	l := edgePieces()
	r := rand.New(rand.NewSource(2))
	for range 2000 {
		l = append(l, somePiece(r))
	}
	for n := range lap.Room + 1 {
		l = append(l, lap.Piece{Epoch: 1, Count: 2, Data: some(int64(n), n)})
	}
	for _, p := range l {
		b := seal(t, p)
		if want := wantSector(p); !bytes.Equal(b, want) {
			t.Errorf("%+v: got %x, want %x", p, b, want)
		}
		wantPiece(t, "sealed", b, p)
	}
}

// TestSealWrong is P4.2: what is no piece has no sector.
func TestSealWrong(t *testing.T) {
	l := []lap.Piece{}
	for _, s := range wrongStamps() {
		l = append(l, lap.Piece{Epoch: s[0], Count: s[1]}, lap.Piece{Epoch: s[0], Count: s[1], First: true, Last: true, Data: make([]byte, 106)})
	}
	for _, n := range []int{107, 108, 128, 255, 256, 257, 362, 8192, 1 << 20} {
		l = append(l, lap.Piece{Data: make([]byte, n)}, lap.Piece{Epoch: maxEpoch, Count: maxCount, First: true, Data: make([]byte, n)})
	}
	for _, p := range l {
		if b, e := lap.Seal(p); e != api.ErrArg || len(b) != 0 {
			t.Errorf("epoch %d, count %d, %d bytes: %x, error %d", p.Epoch, p.Count, len(p.Data), b, e)
		}
	}
}

// TestNoughts is P4.2: 128 noughts are the sector of a piece whose parts are all nought, as the sum of noughts is 0.
func TestNoughts(t *testing.T) {
	if b := seal(t, lap.Piece{}); !bytes.Equal(b, make([]byte, 128)) {
		t.Errorf("got %x", b)
	}
	wantPiece(t, "noughts", make([]byte, 128), lap.Piece{})
}

// TestUnsealLength is P4.2: a sector has 128 bytes.
func TestUnsealLength(t *testing.T) {
	b := seal(t, lap.Piece{Epoch: 3, Count: 4, Data: []byte{5}})
	for _, n := range []int{0, 1, 7, 8, 9, 10, 116, 120, 127} {
		wantNoPiece(t, "a front", b[:n])
		wantNoPiece(t, "noughts", make([]byte, n))
	}
	wantNoPiece(t, "nil", nil)
	wantNoPiece(t, "one more", append(bytes.Clone(b), 0))
	wantNoPiece(t, "twice", append(bytes.Clone(b), b...))
	wantNoPiece(t, "the first one missing", b[1:])
}

// TestUnsealOtherByte is P4.2: a piece's sector in which one byte is another one is none.
func TestUnsealOtherByte(t *testing.T) {
	for _, n := range []int{0, 50, 106} {
		p := lap.Piece{Epoch: 0x0a0b0c, Count: 0x0d0e0f1011, First: true, Last: n > 0, Data: some(9, n)}
		good := seal(t, p)
		for i := range good {
			for x := range 256 {
				b := bytes.Clone(good)
				b[i] = byte(x)
				if b[i] == good[i] {
					wantPiece(t, "the same", b, p)
				} else {
					wantNoPiece(t, "another byte", b)
				}
			}
		}
	}
}

// TestUnsealWrongParts is P4.2: parts that no piece has, in sectors whose sums are right.
func TestUnsealWrongParts(t *testing.T) {
	stamp := uint64(7*counts + 9)
	for flags := range 256 {
		b := sectorOf(stamp, byte(flags), 2, []byte{1, 2})
		if flags <= 3 {
			wantPiece(t, "flags", b, lap.Piece{Epoch: 7, Count: 9, First: flags&1 != 0, Last: flags&2 != 0, Data: []byte{1, 2}})
		} else {
			wantNoPiece(t, "flags", b)
		}
	}
	for size := range 256 {
		full := bytes.Repeat([]byte{8}, 106)
		if size <= 106 {
			wantPiece(t, "size", sectorOf(stamp, 1, byte(size), full[:size]), lap.Piece{Epoch: 7, Count: 9, First: true, Data: full[:size]})
		} else {
			wantNoPiece(t, "size", sectorOf(stamp, 1, byte(size), full))
			wantNoPiece(t, "size, of noughts", sectorOf(stamp, 1, byte(size), nil))
		}
	}
	for size := range 106 {
		for at := size; at < 106; at++ {
			b := sectorOf(stamp, 2, byte(size), nil)
			b[10+at] = 1
			wantNoPiece(t, "no nought behind", resum(b))
		}
	}
}

// TestUnsealWrongStamps is P4.2: the stamp behind is the one ahead, and the one that was summed.
func TestUnsealWrongStamps(t *testing.T) {
	p := lap.Piece{Epoch: 7, Count: 9, Last: true, Data: []byte{1, 2}}
	good := seal(t, p)
	for i := range 8 {
		for bit := range 8 {
			b := bytes.Clone(good)
			b[i] ^= 1 << bit
			wantNoPiece(t, "ahead", resum(bytes.Clone(b)))
			b[120+i] = b[i]
			wantNoPiece(t, "both, not summed", b)
			q := p
			q.Epoch, q.Count = lap.Epoch(binary.BigEndian.Uint64(b)), lap.Count(binary.BigEndian.Uint64(b))
			wantPiece(t, "both, summed", resum(b), q)
			b = bytes.Clone(good)
			b[120+i] ^= 1 << bit
			wantNoPiece(t, "behind", resum(b))
		}
	}
}

// TestUnsealWrongSums is P4.2: the sum is these four bytes alone, the highest first, not one that leaves the same.
func TestUnsealWrongSums(t *testing.T) {
	for _, sum := range []uint32{1, 0xffff, 0xffff0000, 0xffffffff, 1 << 16} {
		b := make([]byte, 128)
		binary.BigEndian.PutUint32(b[116:], sum)
		wantNoPiece(t, "noughts, another sum", b)
	}
	b := sectorOf(counts+5, 3, 3, []byte{6, 7, 8})
	wantPiece(t, "right", b, lap.Piece{Epoch: 1, Count: 5, First: true, Last: true, Data: []byte{6, 7, 8}})
	sum := sumOf(b[:116])
	binary.LittleEndian.PutUint32(b[116:], sum)
	wantNoPiece(t, "the lowest first", b)
	binary.BigEndian.PutUint32(b[116:], sumOf(b[:115]))
	wantNoPiece(t, "of one fewer", b)
	binary.BigEndian.PutUint32(b[116:], sumOf(b[8:116]))
	wantNoPiece(t, "without the stamp", b)
}

// TestPieceMemory is R3 of P4.2: what is handed in is neither changed nor kept, and an answer is new memory.
func TestPieceMemory(t *testing.T) {
	data := some(4, 120)
	before := bytes.Clone(data)
	p := lap.Piece{Epoch: 1, Count: 2, Data: data[:50]}
	b, again := seal(t, p), seal(t, p)
	data[0]++
	if !bytes.Equal(b, again) {
		t.Error("what was handed in was kept")
	}
	data[0]--
	b[10]++
	if !bytes.Equal(data, before) || bytes.Equal(b, again) {
		t.Error("an answer shares with what was handed in, or with another answer")
	}
	q, _ := lap.Unseal(again)
	r, _ := lap.Unseal(again)
	again[10]++
	if !like(q, p) || !like(r, p) {
		t.Error("what was handed in was kept")
	}
	again[10]--
	q.Data[0]++
	_ = append(q.Data, 1, 2, 3)
	if !like(r, p) || !bytes.Equal(again, wantSector(p)) {
		t.Error("an answer shares with what was handed in, or with another answer")
	}
}

// TestEnds is P4.3: the epochs of any 128 bytes' ends, whether they are a piece's or not.
func TestEnds(t *testing.T) {
	tests := []struct{ ahead, behind uint64 }{
		{0, 0},
		{counts, 0},
		{0, counts},
		{3*counts + 9, 3*counts + 9},
		{5*counts + maxCount, 6 * counts},
		{maxCount, maxCount},
		{1<<64 - 1, 1<<64 - 1},
		{0x123456789abcdef0, 0xfedcba9876543210},
	}
	for _, c := range tests {
		for _, fill := range []byte{0, 255} {
			b := bytes.Repeat([]byte{fill}, 128)
			binary.BigEndian.PutUint64(b, c.ahead)
			binary.BigEndian.PutUint64(b[120:], c.behind)
			before := bytes.Clone(b)
			if h, f := lap.Ends(b); h != c.ahead/counts || f != c.behind/counts {
				t.Errorf("%#x and %#x: %d and %d", c.ahead, c.behind, h, f)
			}
			if !bytes.Equal(b, before) {
				t.Error("what was handed in was changed")
			}
		}
	}
	for _, n := range []int{0, 1, 8, 16, 127, 129, 256} {
		if h, f := lap.Ends(bytes.Repeat([]byte{255}, n)); h != 0 || f != 0 {
			t.Errorf("%d bytes: %d and %d", n, h, f)
		}
	}
	if h, f := lap.Ends(nil); h != 0 || f != 0 {
		t.Errorf("nil: %d and %d", h, f)
	}
}

// TestEndsOfPieces is P4.3: both ends of a piece have its epoch.
func TestEndsOfPieces(t *testing.T) {
	for _, p := range edgePieces() {
		if h, f := lap.Ends(seal(t, p)); h != p.Epoch || f != p.Epoch {
			t.Errorf("%+v: %d and %d", p, h, f)
		}
	}
}

// wantTorn fails the test unless a sector with each front of one piece's and the end of another one's is one of both, or no piece's.
func wantTorn(t *testing.T, p, q lap.Piece) {
	t.Helper()
	a, b := seal(t, p), seal(t, q)
	for n := range 129 {
		torn := append(bytes.Clone(a[:n]), b[n:]...)
		switch {
		case bytes.Equal(torn, a):
			wantPiece(t, "the one that was written", torn, p)
		case bytes.Equal(torn, b):
			wantPiece(t, "the one that was there", torn, q)
		default:
			wantNoPiece(t, "torn", torn)
		}
	}
}

// TestTorn is P4.4: of any two pieces of other stamps.
func TestTorn(t *testing.T) {
	r := rand.New(rand.NewSource(3))
	for range 500 {
		p, q := somePiece(r), somePiece(r)
		wantTorn(t, p, q)
		q.First, q.Last, q.Data = p.First, p.Last, p.Data
		wantTorn(t, p, q)
	}
}

// TestTornBit is P4.4 of stamps that are the same but for a bit.
func TestTornBit(t *testing.T) {
	for _, same := range []bool{true, false} {
		for bit := range 64 {
			p := lap.Piece{Epoch: 0x5a5a5a, Count: 0x5a5a5a5a5a, First: true, Data: some(1, 80)}
			q := p
			if bit < 40 {
				q.Count ^= 1 << bit
			} else {
				q.Epoch ^= 1 << (bit - 40)
			}
			if !same {
				q.First, q.Last, q.Data = false, true, some(2, 106)
			}
			wantTorn(t, p, q)
			wantTorn(t, q, p)
		}
	}
}

// TestTornSameSum is P4.4 of stamps that have the same sum, so that nothing but the ends tells the one from the other.
func TestTornSameSum(t *testing.T) {
	for shift := 0; shift < 48; shift += 8 {
		s, u := uint64(0x010001)<<shift, uint64(0x000200)<<shift
		p := lap.Piece{Epoch: s / counts, Count: s % counts, Data: []byte("the same")}
		q := lap.Piece{Epoch: u / counts, Count: u % counts, Data: []byte("the same")}
		if a, b := seal(t, p), seal(t, q); !bytes.Equal(a[116:120], b[116:120]) {
			t.Fatal("the sums are not the same")
		}
		wantTorn(t, p, q)
		wantTorn(t, q, p)
	}
}

// FuzzUnseal is R1 and P4.2: whatever the bytes, with their own sum and stamp or with right ones, what is unsealed is sealed as it was.
func FuzzUnseal(f *testing.F) {
	f.Add([]byte{})
	f.Add(make([]byte, 128))
	f.Add(wantSector(lap.Piece{Epoch: 1, Count: 5, First: true, Data: []byte("ab")}))
	f.Add(sectorOf(9, 4, 107, []byte{1}))
	f.Fuzz(func(t *testing.T, b []byte) {
		try := func(b []byte) {
			p, e := lap.Unseal(b)
			if e == api.OK && !bytes.Equal(wantSector(p), b) || e != api.OK && (e != api.ErrForm || !like(p, lap.Piece{})) {
				t.Errorf("%x: %+v, error %d", b, p, e)
			}
			lap.Ends(b)
		}
		try(b)
		if len(b) == 128 {
			b = resum(bytes.Clone(b))
			copy(b[120:], b[:8])
			try(b)
		}
	})
}
