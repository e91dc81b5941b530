package inode_test

import (
	"bytes"
	"encoding/hex"
	"math"
	"math/rand"
	"strconv"
	"strings"
	"testing"

	"tenancy/api"
	"tenancy/inode"
)

// spelt answers a number's bits as '0' and '1'.
func spelt(x uint64, n int) string {
	s := strconv.FormatUint(x, 2)
	return strings.Repeat("0", n-len(s)) + s
}

// sectorOf answers the sector in which these stand where an inode's parts do, told without the package.
func sectorOf(kind, gen, version uint64, places [8]uint64) []byte {
	row := spelt(kind, 2) + spelt(gen, 31) + spelt(version, 40)
	for _, at := range places {
		row += spelt(at, 12)
	}
	row += strings.Repeat("0", 8*128-len(row))
	b := make([]byte, 128)
	for i := range b {
		c, _ := strconv.ParseUint(row[8*i:8*i+8], 2, 8)
		b[i] = byte(c)
	}
	return b
}

// sector answers the sector of what is known to be an inode.
func sector(x inode.Inode) []byte {
	var places [8]uint64
	for i, at := range x.Blocks {
		places[i] = uint64(at)
	}
	return sectorOf(uint64(x.Kind), uint64(x.Gen), x.Version, places)
}

// isOne tells whether an inode has a sector, condition by condition.
func isOne(x inode.Inode) bool {
	bare := x.Version == 0
	for _, at := range x.Blocks {
		if at < 0 || at > 4095 {
			return false
		}
		bare = bare && at == 0
	}
	if x.Gen < 0 || x.Gen > math.MaxInt32 || x.Version > 1<<40-1 {
		return false
	}
	switch x.Kind {
	case 0:
		return bare
	case 1, 2:
		return true
	}
	return false
}

// wantBoth fails the test unless an inode and its sector are answered of each other; of what is none, unless it is refused.
func wantBoth(t *testing.T, x inode.Inode) {
	t.Helper()
	b, e := inode.Encode(x)
	if !isOne(x) {
		if len(b) != 0 || e != api.ErrArg {
			t.Errorf("Encode(%+v): %x, error %d, want none and error %d", x, b, e, api.ErrArg)
		}
		return
	}
	want := sector(x)
	if e != api.OK || !bytes.Equal(b, want) {
		t.Errorf("Encode(%+v): %x, error %d, want %x", x, b, e, want)
	}
	if y, e := inode.Decode(want); e != api.OK || y != x {
		t.Errorf("Decode(%x): %+v, error %d, want %+v", want, y, e, x)
	}
}

// wantNoSector fails the test unless bytes are no inode's.
func wantNoSector(t *testing.T, b []byte) {
	t.Helper()
	if x, e := inode.Decode(b); e != api.ErrForm || x != (inode.Inode{}) {
		t.Errorf("Decode(%.200x): %+v, error %d, want the zero one and error %d", b, x, e, api.ErrForm)
	}
}

// wantLikeModel fails the test unless Decode answers of a sector what stands in it, if that may be.
func wantLikeModel(t *testing.T, b []byte) {
	t.Helper()
	row := ""
	for _, c := range b {
		row += spelt(uint64(c), 8)
	}
	next := func(n int) int {
		x, _ := strconv.ParseUint(row[:n], 2, 64)
		row = row[n:]
		return int(x)
	}
	x := inode.Inode{Kind: next(2), Gen: next(31), Version: uint64(next(40))}
	for i := range x.Blocks {
		x.Blocks[i] = next(12)
	}
	if !isOne(x) || strings.Contains(row, "1") {
		wantNoSector(t, b)
		return
	}
	if y, e := inode.Decode(b); e != api.OK || y != x {
		t.Errorf("Decode(%x): %+v, error %d, want %+v", b, y, e, x)
	}
}

// full is an inode whose parts are all as great as may be.
var full = inode.Inode{Kind: api.KFile, Gen: math.MaxInt32, Version: api.MaxCount, Blocks: [8]int{4095, 4095, 4095, 4095, 4095, 4095, 4095, 4095}}

// TestSectors is P8.1 of sectors written out by hand.
func TestSectors(t *testing.T) {
	for _, c := range []struct {
		x inode.Inode
		b string
	}{
		{inode.Inode{}, ""},
		{inode.Inode{Gen: 1}, "00000000 80"},
		{inode.Inode{Gen: math.MaxInt32}, "3fffffff 80"},
		{inode.Inode{Kind: api.KDir}, "40"},
		{inode.Inode{Kind: api.KDir, Gen: 1}, "40000000 80"},
		{inode.Inode{Kind: api.KFile, Gen: 1, Version: 1}, "80000000 80 00000000 80"},
		{inode.Inode{Kind: api.KFile, Gen: 3, Version: 9, Blocks: [8]int{5, 0, 4095}}, "80000001 80 00000004 80 28 00 7f f8"},
		{inode.Inode{Kind: api.KFile, Blocks: [8]int{7: 1}}, "80" + strings.Repeat("00", 20) + "80"},
		{full, "bf" + strings.Repeat("ff", 20) + "80"},
	} {
		b, err := hex.DecodeString(strings.ReplaceAll(c.b, " ", ""))
		if err != nil {
			t.Fatal(err)
		}
		b = append(b, make([]byte, 128-len(b))...)
		if got, e := inode.Encode(c.x); e != api.OK || !bytes.Equal(got, b) {
			t.Errorf("Encode(%+v): %x, error %d, want %x", c.x, got, e, b)
		}
		if x, e := inode.Decode(b); e != api.OK || x != c.x {
			t.Errorf("Decode(%x): %+v, error %d, want %+v", b, x, e, c.x)
		}
	}
}

// someKinds, someGens, someVersions and somePlaces are about the edges, and where a number cut to its bits may be one.
var (
	someKinds    = []int{0, 1, 2, 3, 4, 5, 6, 8, -1, -2, -4, 1 << 8, 1<<8 + 1, 1 << 32, 1<<32 + 1, math.MaxInt, math.MinInt, math.MinInt + 1}
	someGens     = []int{0, 1, 2, 255, 256, math.MaxInt32 - 1, math.MaxInt32, 1 << 31, 1<<31 + 1, 1<<32 - 1, 1 << 32, 1<<32 + 1, -1, -2, math.MinInt32, math.MaxInt, math.MinInt}
	someVersions = []uint64{0, 1, 2, 255, 256, math.MaxUint32, 1 << 32, 1<<40 - 2, 1<<40 - 1, 1 << 40, 1<<40 + 1, 1 << 41, 1 << 48, 1 << 63, math.MaxUint64}
	somePlaces   = []int{0, 1, 2, 41, 42, 255, 256, 1023, 1024, 2047, 2048, 4094, 4095, 4096, 4097, 8191, 8192, 1 << 16, 1 << 32, 1<<32 + 1, -1, -4096, math.MaxInt, math.MinInt}
)

// TestEdges is P8.1 and P8.3 of each kind with each Gen, each version, and each place of each block.
func TestEdges(t *testing.T) {
	for _, kind := range someKinds {
		for _, gen := range someGens {
			for _, version := range someVersions {
				wantBoth(t, inode.Inode{Kind: kind, Gen: gen, Version: version})
			}
			for i := range 8 {
				for _, at := range somePlaces {
					x := inode.Inode{Kind: kind, Gen: gen}
					x.Blocks[i] = at
					wantBoth(t, x)
					x = full
					x.Kind, x.Gen, x.Blocks[i] = kind, gen, at
					wantBoth(t, x)
				}
			}
		}
	}
}

// TestEachPlace is P8.1 and P8.3 of each place that a block may have.
func TestEachPlace(t *testing.T) {
	for at := range 4096 {
		x := inode.Inode{Kind: api.KFile, Gen: 1}
		x.Blocks[at%8] = at
		x.Blocks[(at+3)%8] = 4095 - at
		wantBoth(t, x)
	}
}

// TestFree is P8.1: a free one has nothing but its Gen, and that it keeps.
func TestFree(t *testing.T) {
	wantBoth(t, inode.Inode{})
	wantBoth(t, inode.Inode{Gen: 7})
	wantBoth(t, inode.Inode{Gen: math.MaxInt32})
	wantBoth(t, inode.Inode{Version: 1})
	wantBoth(t, inode.Inode{Gen: 7, Version: api.MaxCount})
	for i := range 8 {
		x := inode.Inode{Gen: 7}
		x.Blocks[i] = 1
		wantBoth(t, x)
		wantNoSector(t, sector(x))
		x.Kind = api.KFile
		wantBoth(t, x)
	}
	wantNoSector(t, sector(inode.Inode{Version: 1}))
	wantNoSector(t, sector(inode.Inode{Gen: 7, Version: api.MaxCount}))
}

// TestDecodeKind is P8.1: no inode has the kind 3.
func TestDecodeKind(t *testing.T) {
	wantNoSector(t, sectorOf(3, 0, 0, [8]uint64{}))
	wantNoSector(t, sectorOf(3, 1, 1, [8]uint64{1}))
	wantNoSector(t, bytes.Repeat([]byte{255}, 128))
}

// TestDecodeLengths is P8.1: a sector has 128 bytes, whatever they begin with.
func TestDecodeLengths(t *testing.T) {
	wantNoSector(t, nil)
	for _, x := range []inode.Inode{{}, {Kind: api.KDir, Gen: 1}, full} {
		b := append(sector(x), make([]byte, 130)...)
		for n := range b {
			if n != 128 {
				wantNoSector(t, b[:n])
			}
		}
		wantNoSector(t, append(b, make([]byte, 1<<20)...))
	}
}

// TestDecodeEachBit is P8.1 of each bit of a sector turned round: behind the parts there are noughts alone.
func TestDecodeEachBit(t *testing.T) {
	for _, x := range []inode.Inode{{}, {Gen: 5}, {Kind: api.KDir, Gen: 1}, {Kind: api.KFile, Gen: 3, Version: 9, Blocks: [8]int{5, 0, 4095}}, full} {
		for i := range 8 * 128 {
			b := sector(x)
			b[i/8] ^= 0x80 >> (i % 8)
			wantLikeModel(t, b)
			if i >= 2+31+40+8*12 {
				wantNoSector(t, b)
			}
		}
	}
}

// TestDecodeEachByte is P8.1 of each byte at each place of a sector.
func TestDecodeEachByte(t *testing.T) {
	for at := range 128 {
		for c := range 256 {
			b := sector(inode.Inode{Kind: api.KDir, Gen: 1})
			b[at] = byte(c)
			wantLikeModel(t, b)
		}
	}
}

// pick answers one of these.
func pick[T any](r *rand.Rand, l []T) T { return l[r.Intn(len(l))] }

// someInode answers an inode by chance; mostly one that may be.
func someInode(r *rand.Rand) inode.Inode {
	x := inode.Inode{Kind: r.Intn(3), Gen: int(r.Int31()), Version: r.Uint64() >> (24 + r.Intn(41))}
	for i := range x.Blocks {
		x.Blocks[i] = r.Intn(4096) * r.Intn(2)
	}
	switch r.Intn(12) {
	case 0:
		x.Kind = pick(r, someKinds)
	case 1:
		x.Gen = pick(r, someGens)
	case 2:
		x.Version = pick(r, someVersions)
	case 3:
		x.Blocks[r.Intn(8)] = pick(r, somePlaces)
	case 4:
		x = inode.Inode{Gen: x.Gen}
	}
	return x
}

// TestByChance is P8.1 and P8.3 of inodes by chance.
func TestByChance(t *testing.T) {
	r := rand.New(rand.NewSource(1))
	for range 20000 {
		x := someInode(r)
		wantBoth(t, x)
		if isOne(x) {
			b := sector(x)
			b[r.Intn(24)] ^= 1 << r.Intn(8)
			wantLikeModel(t, b)
		}
	}
}

// TestThereAndBack is P8.3, by what the package answers alone.
func TestThereAndBack(t *testing.T) {
	r := rand.New(rand.NewSource(2))
	for range 20000 {
		x := someInode(r)
		b, e := inode.Encode(x)
		if e != api.OK {
			continue
		}
		if y, e := inode.Decode(b); e != api.OK || y != x {
			t.Fatalf("%+v there and back: %+v, error %d", x, y, e)
		}
	}
}

// TestEncodeAnswersNewMemory is R3: what is done to an answer changes no other one.
func TestEncodeAnswersNewMemory(t *testing.T) {
	for _, x := range []inode.Inode{{}, full} {
		one, _ := inode.Encode(x)
		two, _ := inode.Encode(x)
		for i := range one {
			one[i] ^= 255
		}
		three, _ := inode.Encode(x)
		if want := sector(x); !bytes.Equal(two, want) || !bytes.Equal(three, want) {
			t.Errorf("an answer was changed by way of another one: %x, %x", two, three)
		}
	}
}

// TestDecodeLeavesBytes is R3: bytes that are handed in stay, also those that are no inode's, and what stands behind them.
func TestDecodeLeavesBytes(t *testing.T) {
	for n := range 140 {
		b := bytes.Repeat([]byte{0x41}, 140)
		copy(b, sector(full))
		kept := bytes.Clone(b)
		inode.Decode(b[:n])
		if !bytes.Equal(b, kept) {
			t.Fatalf("Decode of %d bytes changed %x to %x", n, kept, b)
		}
	}
}

// FuzzDecode is R1 and P8.1: whatever the bytes, Decode answers as their bits tell.
func FuzzDecode(f *testing.F) {
	f.Add([]byte{}, 0)
	f.Add(sector(full), 0)
	f.Add(sector(full), 1)
	f.Add([]byte{0x40, 0, 0, 0, 0x80}, 123)
	f.Fuzz(func(t *testing.T, b []byte, more int) {
		b = append(bytes.Clone(b), make([]byte, max(0, min(more, 256)))...)
		if len(b) != 128 {
			wantNoSector(t, b)
			return
		}
		wantLikeModel(t, b)
	})
}
