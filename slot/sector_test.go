package slot_test

import (
	"bytes"
	"encoding/hex"
	"fmt"
	"math"
	"math/rand"
	"strconv"
	"strings"
	"testing"

	"tenancy/api"
	"tenancy/slot"
)

// spelt answers a number's bits as '0' and '1'.
func spelt(x uint64, n int) string {
	s := strconv.FormatUint(x, 2)
	return strings.Repeat("0", n-len(s)) + s
}

// spellAll answers bytes' bits, one byte behind the other.
func spellAll(b []byte) string {
	var row strings.Builder
	for _, c := range b {
		row.WriteString(spelt(uint64(c), 8))
	}
	return row.String()
}

// sectorOf answers the sector in which these stand where a slot's parts do, told without the package.
func sectorOf(used, dirty, ino, gen, at, version, length uint64, data string) []byte {
	row := spelt(used, 1) + spelt(dirty, 1) + spelt(ino, 6) + spelt(gen, 31) + spelt(at, 3) + spelt(version, 40) + spelt(length, 16)
	row += spellAll([]byte(data))
	row += strings.Repeat("0", 8*128-len(row))
	b := make([]byte, 128)
	for i := range b {
		c, _ := strconv.ParseUint(row[8*i:8*i+8], 2, 8)
		b[i] = byte(c)
	}
	return b
}

// sector answers the sector of what is known to be a slot.
func sector(x slot.Slot) []byte {
	one := map[bool]uint64{true: 1}
	f := x.Block.File
	return sectorOf(one[x.Used], one[x.Dirty], uint64(f.Ino), uint64(f.Gen), uint64(x.Block.At), x.Version, uint64(len(x.Data)), x.Data)
}

// isZero tells whether all of a slot is as in the zero one, part by part.
func isZero(x slot.Slot) bool {
	return !x.Used && x.Block.File.Ino == 0 && x.Block.File.Gen == 0 && x.Block.At == 0 && x.Version == 0 && !x.Dirty && len(x.Data) == 0
}

// isOne tells whether a slot is one, condition by condition.
func isOne(x slot.Slot) bool {
	if isZero(x) {
		return true
	}
	f := x.Block.File
	switch {
	case !x.Used:
		return false
	case f.Ino < 1 || f.Ino > 40:
		return false
	case f.Gen < 0 || f.Gen > math.MaxInt32:
		return false
	case x.Block.At < 0 || x.Block.At > 7:
		return false
	case x.Version > 1<<40-1:
		return false
	}
	return len(x.Data) <= 64
}

// brief tells a slot, its Data quoted, and no more of that than a sector's length.
func brief(x slot.Slot) string {
	s := x.Data
	x.Data = ""
	return fmt.Sprintf("%+v with %d bytes: %.128q", x, len(s), s)
}

// wantBoth fails the test unless a slot and its sector are answered of each other; of what is none, unless it is refused.
func wantBoth(t *testing.T, x slot.Slot) {
	t.Helper()
	b, e := slot.Encode(x)
	if !isOne(x) {
		if len(b) != 0 || e != api.ErrArg {
			t.Errorf("Encode(%s): %x, error %d, want none and error %d", brief(x), b, e, api.ErrArg)
		}
		return
	}
	want := sector(x)
	if e != api.OK || !bytes.Equal(b, want) {
		t.Errorf("Encode(%s): %x, error %d, want %x", brief(x), b, e, want)
	}
	if y, e := slot.Decode(want); e != api.OK || y != x {
		t.Errorf("Decode(%x): %s, error %d, want %s", want, brief(y), e, brief(x))
	}
}

// wantNoSector fails the test unless bytes are no slot's.
func wantNoSector(t *testing.T, b []byte) {
	t.Helper()
	if x, e := slot.Decode(b); e != api.ErrForm || x != (slot.Slot{}) {
		t.Errorf("Decode(%.200x): %s, error %d, want the zero one and error %d", b, brief(x), e, api.ErrForm)
	}
}

// wantLikeModel fails the test unless Decode answers of a sector what stands in it, if that may be.
func wantLikeModel(t *testing.T, b []byte) {
	t.Helper()
	row := spellAll(b)
	next := func(n int) uint64 {
		x, _ := strconv.ParseUint(row[:n], 2, 64)
		row = row[n:]
		return x
	}
	var x slot.Slot
	x.Used = next(1) == 1
	x.Dirty = next(1) == 1
	x.Block.File.Ino = int(next(6))
	x.Block.File.Gen = int(next(31))
	x.Block.At = int(next(3))
	x.Version = next(40)
	n := int(next(16))
	if n > 64 {
		wantNoSector(t, b)
		return
	}
	for range n {
		x.Data += string([]byte{byte(next(8))})
	}
	if !isOne(x) || strings.Contains(row, "1") {
		wantNoSector(t, b)
		return
	}
	if y, e := slot.Decode(b); e != api.OK || y != x {
		t.Errorf("Decode(%x): %s, error %d, want %s", b, brief(y), e, brief(x))
	}
}

// blockOf answers a block by its numbers.
func blockOf(ino, gen, at int) api.Block {
	return api.Block{File: api.File{Ino: ino, Gen: gen}, At: at}
}

// least, small and full are slots: the one with nothing but what it must have, one in between, and the one whose parts are all as great as may be.
var (
	least = slot.Slot{Used: true, Block: blockOf(1, 0, 0)}
	small = slot.Slot{Used: true, Block: blockOf(2, 1, 3), Version: 7, Dirty: true, Data: "a"}
	full  = slot.Slot{Used: true, Block: blockOf(40, math.MaxInt32, 7), Version: 1<<40 - 1, Dirty: true, Data: strings.Repeat("\xff", 64)}
)

// TestSectors is P14.1 of sectors written out by hand.
func TestSectors(t *testing.T) {
	for _, c := range []struct {
		x slot.Slot
		b string
	}{
		{slot.Slot{}, ""},
		{least, "81"},
		{slot.Slot{Used: true, Block: blockOf(1, 0, 0), Dirty: true}, "c1"},
		{slot.Slot{Used: true, Block: blockOf(40, 0, 0)}, "a8"},
		{slot.Slot{Used: true, Block: blockOf(1, 1, 0)}, "81 00000002"},
		{slot.Slot{Used: true, Block: blockOf(1, math.MaxInt32, 0)}, "81 fffffffe"},
		{slot.Slot{Used: true, Block: blockOf(1, 0, 1)}, "81 00000000 40"},
		{slot.Slot{Used: true, Block: blockOf(1, 0, 7)}, "81 00000001 c0"},
		{slot.Slot{Used: true, Block: blockOf(1, 0, 0), Version: 1}, "81 00000000 0000000000 40"},
		{slot.Slot{Used: true, Block: blockOf(1, 0, 0), Version: 1<<40 - 1}, "81 00000000 3fffffffff c0"},
		{slot.Slot{Used: true, Block: blockOf(1, 0, 0), Data: "a"}, "81 00000000 0000000000 00 00 5840"},
		{slot.Slot{Used: true, Block: blockOf(1, 0, 0), Data: "\x00"}, "81 00000000 0000000000 00 00 40"},
		{small, "c2 00000002 c000000001 c0 00 5840"},
		{full, "e8 ffffffff ffffffffff c0 10 3f" + strings.Repeat("ff", 63) + "c0"},
	} {
		b, err := hex.DecodeString(strings.ReplaceAll(c.b, " ", ""))
		if err != nil {
			t.Fatal(err)
		}
		b = append(b, make([]byte, 128-len(b))...)
		if got, e := slot.Encode(c.x); e != api.OK || !bytes.Equal(got, b) {
			t.Errorf("Encode(%s): %x, error %d, want %x", brief(c.x), got, e, b)
		}
		if x, e := slot.Decode(b); e != api.OK || x != c.x {
			t.Errorf("Decode(%x): %s, error %d, want %s", b, brief(x), e, brief(c.x))
		}
	}
}

// someInos to someLengths are about the edges, and where a number cut to its bits may be one.
var (
	someInos     = []int{0, 1, 2, 31, 32, 39, 40, 41, 42, 63, 64, 65, 104, 105, 128, 129, 1<<8 + 1, 1<<32 + 1, 1<<62 + 1, -1, -24, -63, -64, math.MaxInt, math.MinInt, math.MinInt + 1}
	someGens     = []int{0, 1, 2, 255, 256, math.MaxInt32 - 1, math.MaxInt32, 1 << 31, 1<<31 + 1, 1<<32 - 1, 1 << 32, 1<<32 + 1, -1, -2, math.MinInt32, math.MaxInt, math.MinInt}
	someAts      = []int{0, 1, 2, 3, 4, 5, 6, 7, 8, 9, 15, 16, 1 << 8, 1 << 32, 1<<32 + 1, -1, -7, -8, math.MaxInt, math.MinInt}
	someVersions = []uint64{0, 1, 2, 255, 256, math.MaxUint32, 1 << 32, 1<<40 - 2, 1<<40 - 1, 1 << 40, 1<<40 + 1, 1 << 41, 1 << 48, 1 << 63, math.MaxUint64}
	someLengths  = []int{0, 1, 2, 7, 8, 63, 64, 65, 66, 115, 116, 127, 128, 129, 255, 256, 65535, 65536, 65537, 1 << 20}
)

// eachEdge calls a function with slots of which one part goes through its edges, and another one likewise.
func eachEdge(x slot.Slot, f func(slot.Slot)) {
	parts := []func(slot.Slot, func(slot.Slot)){
		func(x slot.Slot, f func(slot.Slot)) {
			for _, x.Used = range []bool{false, true} {
				f(x)
			}
		},
		func(x slot.Slot, f func(slot.Slot)) {
			for _, x.Dirty = range []bool{false, true} {
				f(x)
			}
		},
		func(x slot.Slot, f func(slot.Slot)) {
			for _, x.Block.File.Ino = range someInos {
				f(x)
			}
		},
		func(x slot.Slot, f func(slot.Slot)) {
			for _, x.Block.File.Gen = range someGens {
				f(x)
			}
		},
		func(x slot.Slot, f func(slot.Slot)) {
			for _, x.Block.At = range someAts {
				f(x)
			}
		},
		func(x slot.Slot, f func(slot.Slot)) {
			for _, x.Version = range someVersions {
				f(x)
			}
		},
		func(x slot.Slot, f func(slot.Slot)) {
			for _, n := range someLengths {
				x.Data = strings.Repeat("z", n)
				f(x)
			}
		},
	}
	for i, one := range parts {
		for _, two := range parts[:i] {
			one(x, func(x slot.Slot) { two(x, f) })
		}
	}
}

// TestEdges is P14.1 and P14.3 of each edge of each part with each of each other one, in slots and free ones.
func TestEdges(t *testing.T) {
	for _, x := range []slot.Slot{{}, least, small, full} {
		eachEdge(x, func(x slot.Slot) { wantBoth(t, x) })
	}
}

// TestWrongParts is P14.1: each part alone may be what makes a slot none.
func TestWrongParts(t *testing.T) {
	for i, spoil := range []func(x *slot.Slot){
		func(x *slot.Slot) { x.Used = false },
		func(x *slot.Slot) { x.Block.File.Ino = 0 },
		func(x *slot.Slot) { x.Block.File.Ino = 41 },
		func(x *slot.Slot) { x.Block.File.Ino = -1 },
		func(x *slot.Slot) { x.Block.File.Gen = -1 },
		func(x *slot.Slot) { x.Block.File.Gen = 1 << 31 },
		func(x *slot.Slot) { x.Block.At = -1 },
		func(x *slot.Slot) { x.Block.At = 8 },
		func(x *slot.Slot) { x.Version = 1 << 40 },
		func(x *slot.Slot) { x.Data = strings.Repeat("a", 65) },
	} {
		for _, x := range []slot.Slot{least, small, full} {
			wantBoth(t, x)
			spoil(&x)
			if b, e := slot.Encode(x); len(b) != 0 || e != api.ErrArg {
				t.Errorf("wrong part %d: Encode(%s): %x, error %d, want none and error %d", i, brief(x), b, e, api.ErrArg)
			}
		}
	}
}

// TestFreeHasNothing is P14.1: a free one is the zero one, so what is not used has nothing else.
func TestFreeHasNothing(t *testing.T) {
	wantBoth(t, slot.Slot{})
	for _, x := range []slot.Slot{{Dirty: true}, {Block: blockOf(1, 0, 0)}, {Block: blockOf(0, 1, 0)}, {Block: blockOf(0, 0, 1)}, {Version: 1}, {Data: "a"}, {Data: "\x00"}} {
		wantBoth(t, x)
		wantNoSector(t, sector(x))
		x.Used, x.Block.File.Ino = true, 1
		wantBoth(t, x)
	}
}

// TestDecodeInos is P14.1: there are sectors of no other file than those of 1 to 40.
func TestDecodeInos(t *testing.T) {
	for ino := range uint64(64) {
		b := sectorOf(1, 1, ino, 1, 2, 3, 4, "abcd")
		wantLikeModel(t, b)
		if ino < 1 || ino > 40 {
			wantNoSector(t, b)
		}
	}
}

// TestEachNumber is P14.1 and P14.3 of each file's number and each place, and of each bit of Gen and Version alone.
func TestEachNumber(t *testing.T) {
	for ino := range 50 {
		for at := range 10 {
			wantBoth(t, slot.Slot{Used: true, Block: blockOf(ino, 5, at), Version: 9, Data: "hello"})
		}
	}
	for i := range 64 {
		wantBoth(t, slot.Slot{Used: true, Block: blockOf(3, 1<<i, 4), Version: 9, Data: "hello"})
		wantBoth(t, slot.Slot{Used: true, Block: blockOf(3, 5, 4), Version: 1 << i, Data: "hello"})
	}
}

// TestEachText is P14.1 and P14.3 of Data of each length and each byte, noughts too: behind others they are not the noughts behind all.
func TestEachText(t *testing.T) {
	x := small
	for n := range 140 {
		for _, c := range []string{"\x00", "a", "\x80", "\xff"} {
			x.Data = strings.Repeat(c, n)
			wantBoth(t, x)
		}
	}
	for c := range 256 {
		for at := range 64 {
			b := bytes.Repeat([]byte{'m'}, 64)
			b[at] = byte(c)
			x.Data = string(b)
			wantBoth(t, x)
			x.Data = string(b[:at+1])
			wantBoth(t, x)
		}
	}
}

// TestDecodeTexts is P14.1 of texts of each length: one of more than 64 bytes is none, whether it fits into a sector or not.
func TestDecodeTexts(t *testing.T) {
	for n := range uint64(1 << 16) {
		b := sectorOf(1, 0, 3, 1, 2, 9, n, "")
		if n > 64 {
			wantNoSector(t, b)
			continue
		}
		wantLikeModel(t, b)
		wantLikeModel(t, sectorOf(1, 0, 3, 1, 2, 9, n, strings.Repeat("x", 64)))
		wantLikeModel(t, sectorOf(0, 0, 0, 0, 0, 0, n, ""))
	}
	for n := 65; n <= 115; n++ {
		wantNoSector(t, sectorOf(1, 0, 3, 1, 2, 9, uint64(n), strings.Repeat("x", n)))
		wantNoSector(t, sectorOf(0, 0, 0, 0, 0, 0, uint64(n), strings.Repeat("\x00", n)))
	}
	wantNoSector(t, bytes.Repeat([]byte{255}, 128))
}

// TestDecodeLengths is P14.1: a sector has 128 bytes, whatever they begin with.
func TestDecodeLengths(t *testing.T) {
	wantNoSector(t, nil)
	for _, x := range []slot.Slot{{}, least, small, full} {
		b := append(sector(x), make([]byte, 130)...)
		for n := range b {
			if n != 128 {
				wantNoSector(t, b[:n])
			}
		}
		wantNoSector(t, append(b, make([]byte, 1<<20)...))
	}
}

// TestDecodeEachBit is P14.1 of each bit of a sector turned round: behind the Data there are noughts alone.
func TestDecodeEachBit(t *testing.T) {
	for _, x := range []slot.Slot{{}, least, small, full, {Used: true, Block: blockOf(7, 5, 1), Data: strings.Repeat("\x00", 64)}} {
		for i := range 8 * 128 {
			b := sector(x)
			b[i/8] ^= 0x80 >> (i % 8)
			wantLikeModel(t, b)
			if i >= 2+6+31+3+40+16+8*len(x.Data) {
				wantNoSector(t, b)
			}
			if isZero(x) && i > 0 {
				wantNoSector(t, b)
			}
		}
	}
}

// TestDecodeEachByte is P14.1 of each byte at each place of a sector.
func TestDecodeEachByte(t *testing.T) {
	for _, x := range []slot.Slot{{}, least, small} {
		for at := range 128 {
			for c := range 256 {
				b := sector(x)
				b[at] = byte(c)
				wantLikeModel(t, b)
			}
		}
	}
}

// pick answers one of these.
func pick[T any](r *rand.Rand, l []T) T { return l[r.Intn(len(l))] }

// someSlot answers a slot by chance; mostly one that may be.
func someSlot(r *rand.Rand) slot.Slot {
	b := make([]byte, r.Intn(65))
	r.Read(b)
	x := slot.Slot{
		Used:    true,
		Block:   blockOf(1+r.Intn(40), int(r.Int31()), r.Intn(8)),
		Version: r.Uint64() >> (24 + r.Intn(41)),
		Dirty:   r.Intn(2) == 0,
		Data:    string(b),
	}
	switch r.Intn(16) {
	case 0:
		x.Used = false
	case 1:
		x.Block.File.Ino = pick(r, someInos)
	case 2:
		x.Block.File.Gen = pick(r, someGens)
	case 3:
		x.Block.At = pick(r, someAts)
	case 4:
		x.Version = pick(r, someVersions)
	case 5:
		x.Data = strings.Repeat("y", 60+r.Intn(10))
	case 6:
		x = slot.Slot{}
	}
	return x
}

// TestByChance is P14.1 and P14.3 of slots by chance.
func TestByChance(t *testing.T) {
	r := rand.New(rand.NewSource(1))
	for range 20000 {
		x := someSlot(r)
		wantBoth(t, x)
		if isOne(x) {
			b := sector(x)
			b[r.Intn(128)] ^= 1 << r.Intn(8)
			wantLikeModel(t, b)
			b[r.Intn(14)] ^= 1 << r.Intn(8)
			wantLikeModel(t, b)
		}
	}
}

// TestThereAndBack is P14.3, by what the package answers alone.
func TestThereAndBack(t *testing.T) {
	r := rand.New(rand.NewSource(2))
	for range 20000 {
		x := someSlot(r)
		b, e := slot.Encode(x)
		if e != api.OK {
			continue
		}
		if y, e := slot.Decode(b); e != api.OK || y != x {
			t.Fatalf("%s there and back: %s, error %d", brief(x), brief(y), e)
		}
	}
}

// TestEncodeAnswersNewMemory is R3: what is done to an answer changes no other one.
func TestEncodeAnswersNewMemory(t *testing.T) {
	for _, x := range []slot.Slot{{}, least, small, full} {
		one, _ := slot.Encode(x)
		two, _ := slot.Encode(x)
		for i := range one {
			one[i] ^= 255
		}
		_ = append(one, 1, 2, 3)
		three, _ := slot.Encode(x)
		if want := sector(x); !bytes.Equal(two, want) || !bytes.Equal(three, want) {
			t.Errorf("an answer was changed by way of another one: %x, %x", two, three)
		}
	}
}

// TestDecodeLeavesBytes is R3: bytes that are handed in stay, also those that are no slot's, and what stands behind them.
func TestDecodeLeavesBytes(t *testing.T) {
	for n := range 140 {
		b := bytes.Repeat([]byte{0x41}, 140)
		copy(b, sector(full))
		kept := bytes.Clone(b)
		slot.Decode(b[:n])
		if !bytes.Equal(b, kept) {
			t.Fatalf("Decode of %d bytes changed %x to %x", n, kept, b)
		}
	}
}

// TestDecodeKeepsNoBytes is R3: what is done to bytes that were handed in changes no answer.
func TestDecodeKeepsNoBytes(t *testing.T) {
	b := sector(full)
	x, _ := slot.Decode(b)
	clear(b)
	if x != full {
		t.Errorf("an answer was changed by way of the bytes: %s, want %s", brief(x), brief(full))
	}
}

// FuzzDecode is R1 and P14.1: whatever the bytes, Decode answers as their bits tell.
func FuzzDecode(f *testing.F) {
	f.Add([]byte{}, 0)
	f.Add(sector(full), 0)
	f.Add(sector(small), 1)
	f.Add([]byte{0x81, 0, 0, 0, 2}, 123)
	f.Fuzz(func(t *testing.T, b []byte, more int) {
		b = append(bytes.Clone(b), make([]byte, max(0, min(more, 256)))...)
		if len(b) != 128 {
			wantNoSector(t, b)
			return
		}
		wantLikeModel(t, b)
	})
}
