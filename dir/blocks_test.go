package dir_test

import (
	"bytes"
	"encoding/hex"
	"fmt"
	"math"
	"math/rand"
	"regexp"
	"runtime"
	"slices"
	"strconv"
	"strings"
	"testing"

	"tenancy/api"
	"tenancy/dir"
)

// likeName is what a name looks like; . and .. look like it, and are none.
var likeName = regexp.MustCompile(`\A[!-.0-~]{1,16}\z`)

// isRight tells whether an entry is right, condition by condition.
func isRight(e api.Entry) bool {
	if !likeName.MatchString(e.Name) || e.Name == "." || e.Name == ".." {
		return false
	}
	return 0 < e.File.Ino && e.File.Ino < 41 && 0 <= e.File.Gen && e.File.Gen <= math.MaxInt32 && 0 < e.Kind && e.Kind < 3
}

// wanted answers what Blocks should tell of entries.
func wanted(l []api.Entry) api.Errno {
	for i, e := range l {
		if !isRight(e) || i > 0 && bytes.Compare([]byte(l[i-1].Name), []byte(e.Name)) >= 0 {
			return api.ErrArg
		}
	}
	if len(l) > 24 {
		return api.ErrFull
	}
	return api.OK
}

// spelt answers a number's bits as '0' and '1'.
func spelt(x, n int) string {
	s := strconv.FormatUint(uint64(x), 2)
	return strings.Repeat("0", n-len(s)) + s
}

// row answers an entry's bits, told without the package.
func row(e api.Entry) string {
	s := spelt(len(e.Name), 5) + spelt(e.File.Ino, 6) + spelt(e.File.Gen, 31) + spelt(e.Kind, 2)
	for i := range len(e.Name) {
		s += spelt(int(e.Name[i]), 8)
	}
	return s + strings.Repeat("0", 5+6+31+2+16*8-len(s))
}

// packed answers the block of these bits, with noughts behind.
func packed(row string) []byte {
	row += strings.Repeat("0", 8*128-len(row))
	b := make([]byte, 128)
	for i := range b {
		c, _ := strconv.ParseUint(row[8*i:8*i+8], 2, 8)
		b[i] = byte(c)
	}
	return b
}

// laid answers the blocks of entries, so many a block, whether they may be or not.
func laid(l []api.Entry, n int) [][]byte {
	var blocks [][]byte
	for part := range slices.Chunk(l, n) {
		s := ""
		for _, e := range part {
			s += row(e)
		}
		blocks = append(blocks, packed(s))
	}
	return blocks
}

// unpacked answers a block's bits.
func unpacked(b []byte) string {
	s := ""
	for _, c := range b {
		s += spelt(int(c), 8)
	}
	return s
}

// number answers what bits are.
func number(row string) int {
	x, _ := strconv.ParseUint(row, 2, 64)
	return int(x)
}

// spell reads the entries of a block bit by bit; false, if one that stands there, or what is behind them, may not be there.
func spell(b []byte) ([]api.Entry, bool) {
	if len(b) != 128 {
		return nil, false
	}
	var l []api.Entry
	s := unpacked(b)
	for len(l) < 5 && s[:5] != "00000" {
		n, rest := number(s[:5]), s[44:172]
		if n > 16 || strings.Contains(rest[8*n:], "1") {
			return nil, false
		}
		e := api.Entry{File: api.File{Ino: number(s[5:11]), Gen: number(s[11:42])}, Kind: number(s[42:44])}
		for i := range n {
			e.Name += string([]byte{byte(number(rest[8*i : 8*i+8]))})
		}
		l, s = append(l, e), s[172:]
	}
	return l, !strings.Contains(s, "1")
}

// spellAll reads the entries of blocks; false, if they are not those of right entries.
func spellAll(l [][]byte) ([]api.Entry, bool) {
	var all []api.Entry
	for i, b := range l {
		part, ok := spell(b)
		if !ok || len(part) == 0 || i < len(l)-1 && len(part) < 5 {
			return nil, false
		}
		all = append(all, part...)
	}
	return all, wanted(all) == api.OK
}

// same tells whether blocks are the same.
func same(a, b [][]byte) bool { return slices.EqualFunc(a, b, bytes.Equal) }

// brief answers what a failed test shows of a thing, which may be large.
func brief(x any) string {
	s := fmt.Sprintf("%+v", x)
	return s[:min(len(s), 2000)]
}

// wantBoth fails the test unless entries and their blocks are answered of each other; of what has none, unless it is refused.
func wantBoth(t *testing.T, l []api.Entry) {
	t.Helper()
	b, e := dir.Blocks(l)
	if want := wanted(l); want != api.OK {
		if len(b) != 0 || e != want {
			t.Fatalf("Blocks(%s): %x, error %d, want none and error %d", brief(l), b, e, want)
		}
		return
	}
	want := laid(l, 5)
	if e != api.OK || !same(b, want) {
		t.Fatalf("Blocks(%s): %x, error %d, want %x", brief(l), b, e, want)
	}
	if m, e := dir.Entries(want); e != api.OK || !slices.Equal(m, l) {
		t.Fatalf("Entries(%x): %s, error %d, want %s", want, brief(m), e, brief(l))
	}
}

// wantError fails the test unless Blocks tells this one of entries.
func wantError(t *testing.T, l []api.Entry, want api.Errno) {
	t.Helper()
	if b, e := dir.Blocks(l); len(b) != 0 || e != want {
		t.Fatalf("Blocks(%s): %x, error %d, want none and error %d", brief(l), b, e, want)
	}
}

// wantNoBlocks fails the test unless these are no entries' blocks.
func wantNoBlocks(t *testing.T, l ...[]byte) {
	t.Helper()
	if m, e := dir.Entries(l); e != api.ErrForm || len(m) != 0 {
		t.Fatalf("Entries(%s): %s, error %d, want none and error %d", brief(l), brief(m), e, api.ErrForm)
	}
}

// wantLikeModel fails the test unless Entries answers of blocks what their bits tell; what has entries has those blocks.
func wantLikeModel(t *testing.T, l ...[]byte) {
	t.Helper()
	want, ok := spellAll(l)
	if !ok {
		wantNoBlocks(t, l...)
		return
	}
	if m, e := dir.Entries(l); e != api.OK || !slices.Equal(m, want) {
		t.Fatalf("Entries(%x): %s, error %d, want %s", l, brief(m), e, brief(want))
	}
	if b, e := dir.Blocks(want); e != api.OK || !same(b, l) {
		t.Fatalf("Blocks(%s): %x, error %d, want %x", brief(want), b, e, l)
	}
}

// entry answers a right entry of this name; no two of them are alike in any part.
func entry(s string, i int) api.Entry {
	return api.Entry{Name: s, File: api.File{Ino: 1 + i%40, Gen: 1000 + i}, Kind: 1 + i%2}
}

// counted answers n entries whose names rise.
func counted(n int) []api.Entry {
	l := make([]api.Entry, n)
	for i := range l {
		l[i] = entry("n"+strconv.Itoa(1000+i), i)
	}
	return l
}

// with answers entries of which one is another one.
func with(l []api.Entry, at int, e api.Entry) []api.Entry {
	l = slices.Clone(l)
	l[at] = e
	return l
}

const long = "0123456789abcdef"

// full is an entry whose parts are all as great as may be.
var full = api.Entry{Name: long, File: api.File{Ino: 40, Gen: math.MaxInt32}, Kind: api.KFile}

// TestBlocksByHand is P9.1 of blocks written out by hand.
func TestBlocksByHand(t *testing.T) {
	a := api.Entry{Name: "a", File: api.File{Ino: 1, Gen: 1}, Kind: api.KDir}
	for _, c := range []struct {
		l []api.Entry
		b string
	}{
		{[]api.Entry{a}, "08 20 00 00 00 56 10"},
		{[]api.Entry{full}, "85 1f ff ff ff e3 03 13 23 33 43 53 63 73 83 96 16 26 36 46 56 60"},
		{[]api.Entry{full, a}, "85 1f ff ff ff e3 03 13 23 33 43 53 63 73 83 96 16 26 36 46 56 60 82 00 00 00 05 61"},
		{[]api.Entry{{Name: "bc", File: api.File{Ino: 33, Gen: 0}, Kind: api.KFile}}, "14 20 00 00 00 26 26 30"},
	} {
		b, err := hex.DecodeString(strings.ReplaceAll(c.b, " ", ""))
		if err != nil {
			t.Fatal(err)
		}
		want := [][]byte{append(b, make([]byte, 128-len(b))...)}
		if got, e := dir.Blocks(c.l); e != api.OK || !same(got, want) {
			t.Errorf("Blocks(%+v): %x, error %d, want %x", c.l, got, e, want)
		}
		if l, e := dir.Entries(want); e != api.OK || !slices.Equal(l, c.l) {
			t.Errorf("Entries(%x): %+v, error %d, want %+v", want, l, e, c.l)
		}
	}
}

// TestEachCount is P9.1 and P9.2: five a block, the last one has the rest, none of none; 24 at most.
func TestEachCount(t *testing.T) {
	blocks := []int{0, 1, 1, 1, 1, 1, 2, 2, 2, 2, 2, 3, 3, 3, 3, 3, 4, 4, 4, 4, 4, 5, 5, 5, 5}
	for n, want := range blocks {
		l := counted(n)
		wantBoth(t, l)
		if b, e := dir.Blocks(l); e != api.OK || len(b) != want {
			t.Errorf("%d entries: %d blocks, error %d, want %d", n, len(b), e, want)
		}
	}
	wantBoth(t, nil)
	if l, e := dir.Entries(nil); e != api.OK || len(l) != 0 {
		t.Errorf("Entries of no blocks: %+v, error %d", l, e)
	}
	if l, e := dir.Entries([][]byte{}); e != api.OK || len(l) != 0 {
		t.Errorf("Entries of an empty list: %+v, error %d", l, e)
	}
}

// TestFull is P9.2: ErrFull of more entries than a directory has.
func TestFull(t *testing.T) {
	for _, n := range []int{25, 26, 30, 40, 256, 280, 5000} {
		wantError(t, counted(n), api.ErrFull)
	}
}

// someNames are names and texts that are none.
var (
	someNames = []string{"a", "!", "~", "A", "0", "-", "...", ".a", "a.", "..a", `a\b`, "README.md", "012345678", long, strings.Repeat("~", 16), strings.Repeat(".", 16)}
	noNames   = []string{"", ".", "..", "/", "a/b", "/a", "a/", " ", "a b", "a ", "\x00", "a\x00", "a\x00b", "\n", "\x1f", "\x7f", "\x80", "\xff", "\u00e9", "a\ufffd", long + "g", strings.Repeat("x", 31), strings.Repeat("x", 32), strings.Repeat("x", 33), strings.Repeat("x", 1<<16)}
)

// someInos, someGens and someKinds are about the edges, and where a number cut to its bits may be one.
var (
	someInos  = []int{0, 1, 2, 23, 24, 31, 32, 39, 40, 41, 63, 64, 65, 104, 128, 256, 257, 1 << 32, 1<<32 + 1, -1, -24, -63, math.MaxInt, math.MinInt, math.MinInt + 1}
	someGens  = []int{0, 1, 2, 255, 256, math.MaxInt32 - 1, math.MaxInt32, 1 << 31, 1<<31 + 1, 1<<32 - 1, 1 << 32, 1<<32 + 1, -1, -2, math.MinInt32, math.MaxInt, math.MinInt, math.MinInt + 1}
	someKinds = []int{0, 1, 2, 3, 4, 5, 6, 8, 257, 1<<32 + 1, -1, -2, -3, math.MaxInt, math.MinInt, math.MinInt + 1}
)

// TestEdges is P9.1 and P9.4 of each name, Ino, Gen and Kind.
func TestEdges(t *testing.T) {
	for _, ino := range someInos {
		for _, gen := range someGens {
			for _, kind := range someKinds {
				wantBoth(t, []api.Entry{{Name: "a", File: api.File{Ino: ino, Gen: gen}, Kind: kind}})
			}
		}
	}
	for _, s := range slices.Concat(someNames, noNames) {
		for n := range 6 {
			wantBoth(t, []api.Entry{entry(s, n)})
		}
		wantBoth(t, []api.Entry{{Name: s}})
	}
}

// TestEachNumber is P9.1 of each Ino and each length of a name.
func TestEachNumber(t *testing.T) {
	for n := range 70 {
		wantBoth(t, []api.Entry{{Name: "a", File: api.File{Ino: n, Gen: n}, Kind: api.KDir}})
		wantBoth(t, []api.Entry{entry(strings.Repeat("x", n), 7)})
	}
}

// TestEachByte is P9.1 of each byte at each place of a name.
func TestEachByte(t *testing.T) {
	for c := range 256 {
		for at := range 16 {
			b := []byte(long)
			b[at] = byte(c)
			wantBoth(t, []api.Entry{entry(string(b), c)})
			wantLikeModel(t, laid([]api.Entry{entry(string(b), c)}, 5)...)
		}
	}
}

// faults answers what makes an entry one that is not right, each in a way of its own.
func faults() []func(*api.Entry) {
	return []func(*api.Entry){
		func(e *api.Entry) { e.Name = "" },
		func(e *api.Entry) { e.Name += "/" },
		func(e *api.Entry) { e.Name += "\x80" },
		func(e *api.Entry) { e.Name += strings.Repeat("x", 12) },
		func(e *api.Entry) { e.File.Ino = 0 },
		func(e *api.Entry) { e.File.Ino = -1 },
		func(e *api.Entry) { e.File.Ino = 41 },
		func(e *api.Entry) { e.File.Ino = 64 },
		func(e *api.Entry) { e.File.Gen = -1 },
		func(e *api.Entry) { e.File.Gen = 1 << 31 },
		func(e *api.Entry) { e.Kind = 0 },
		func(e *api.Entry) { e.Kind = 3 },
		func(e *api.Entry) { e.Kind = 4 },
		func(e *api.Entry) { *e = api.Entry{} },
	}
}

// TestWrongAtEachPlace is P9.2: none and ErrArg, whichever of the entries is not right, and also if there are too many.
func TestWrongAtEachPlace(t *testing.T) {
	for _, n := range []int{1, 2, 5, 6, 24, 25, 26, 50} {
		l := counted(n)
		for at := range n {
			for _, do := range faults() {
				e := l[at]
				do(&e)
				wantError(t, with(l, at, e), api.ErrArg)
			}
			if at > 0 {
				wantError(t, with(l, at, l[at-1]), api.ErrArg)
			}
		}
	}
}

// TestNamesRise is P9.1: byte by byte, one that begins another one ahead of it, and no two alike.
func TestNamesRise(t *testing.T) {
	rising := []string{"!", "!!", "-", "...", "0", "0123456789abcde", long, "09", "1", "A", "Z", "ZZ", "Za", "a", "a!", "aZ", "aa", "aa~", "ab", "b", "z", "zzzzzzzzzzzzzzzy", "zzzzzzzzzzzzzzzz", "~"}
	var all []api.Entry
	for i, s := range rising {
		all = append(all, entry(s, i))
		for j, u := range rising {
			l := []api.Entry{entry(s, 1), entry(u, 2)}
			if i < j {
				wantBoth(t, l)
				continue
			}
			wantError(t, l, api.ErrArg)
			wantNoBlocks(t, laid(l, 5)...)
		}
	}
	wantBoth(t, all)
	for i := range len(all) - 1 {
		l := slices.Clone(all)
		l[i], l[i+1] = l[i+1], l[i]
		wantError(t, l, api.ErrArg)
		wantNoBlocks(t, laid(l, 5)...)
		l[i] = l[i+1]
		wantError(t, l, api.ErrArg)
		wantNoBlocks(t, laid(l, 5)...)
	}
	wantError(t, []api.Entry{entry("a", 1), entry("a", 1)}, api.ErrArg)
	wantError(t, []api.Entry{entry("a", 1), entry("c", 1), entry("b", 1)}, api.ErrArg)
	wantError(t, []api.Entry{entry("b", 1), entry("c", 1), entry("a", 1)}, api.ErrArg)
}

// TestEntriesWrongParts is P9.2 of blocks whose entries are not right, at each place of 24.
func TestEntriesWrongParts(t *testing.T) {
	l := counted(24)
	for at := range l {
		for _, do := range []func(*api.Entry){
			func(e *api.Entry) { e.Name = "" },
			func(e *api.Entry) { e.Name += "/" },
			func(e *api.Entry) { e.Name += "\x00" },
			func(e *api.Entry) { e.Name += "\xff" },
			func(e *api.Entry) { e.File.Ino = 0 },
			func(e *api.Entry) { e.File.Ino = 41 },
			func(e *api.Entry) { e.File.Ino = 63 },
			func(e *api.Entry) { e.Kind = 0 },
			func(e *api.Entry) { e.Kind = 3 },
		} {
			e := l[at]
			do(&e)
			wantNoBlocks(t, laid(with(l, at, e), 5)...)
		}
	}
	for _, s := range []string{".", ".."} {
		wantNoBlocks(t, laid([]api.Entry{entry(s, 1)}, 5)...)
	}
}

// TestEntriesLengths is P9.1 of a name's length: it has so many bytes, and noughts behind.
func TestEntriesLengths(t *testing.T) {
	for said := range 32 {
		for has := range 17 {
			s := row(entry(long[:has], 3))
			b := packed(spelt(said, 5) + s[5:])
			wantLikeModel(t, b)
			if said != has || has == 0 {
				wantNoBlocks(t, b)
			}
		}
	}
}

// TestEntriesGaps is P9.1: entries stand one behind the other, from a block's first bit on, five in each but the last one.
func TestEntriesGaps(t *testing.T) {
	gap := strings.Repeat("0", 172)
	a, b, c := row(entry("a", 1)), row(entry("b", 2)), row(entry("c", 3))
	for _, s := range []string{gap + a, a + gap + b, a + b + gap + c, gap + gap + gap + gap + a, a + gap + gap + gap + c, "0" + a, a + "0" + b} {
		wantNoBlocks(t, packed(s))
	}
	for n := 1; n < 5; n++ {
		for _, l := range [][]api.Entry{counted(n + 1), counted(2 * n), counted(24)} {
			if n < len(l) {
				wantNoBlocks(t, laid(l, n)...)
			}
		}
	}
	l := counted(10)
	for n := 1; n < 5; n++ {
		wantNoBlocks(t, slices.Concat(laid(l[:n], 5), laid(l[n:n+5], 5))...)
	}
	l = counted(24)
	for at := range 23 {
		wantNoBlocks(t, laid(with(l, at, api.Entry{}), 5)...)
	}
}

// TestEntriesNoughts is P9.2: no block is without entries.
func TestEntriesNoughts(t *testing.T) {
	none := make([]byte, 128)
	for _, n := range []int{0, 1, 5, 6, 10, 20, 24} {
		b := laid(counted(n), 5)
		for at := range len(b) + 1 {
			wantNoBlocks(t, slices.Insert(slices.Clone(b), at, none)...)
		}
	}
	wantNoBlocks(t, none, none)
}

// TestEntriesOrder is P9.2: blocks stand in order, each once.
func TestEntriesOrder(t *testing.T) {
	b := laid(counted(24), 5)
	wantLikeModel(t, b...)
	for i := range b {
		for j := range b {
			l := slices.Clone(b)
			l[i], l[j] = l[j], l[i]
			wantLikeModel(t, l...)
			if i != j {
				wantNoBlocks(t, l...)
			}
			wantNoBlocks(t, slices.Insert(slices.Clone(b), j, b[i])...)
		}
		wantLikeModel(t, slices.Delete(slices.Clone(b), i, i+1)...)
		wantLikeModel(t, b[i:]...)
		wantLikeModel(t, b[:i]...)
	}
}

// TestEntriesTooMany is P9.2: entries that are right are 24 at most.
func TestEntriesTooMany(t *testing.T) {
	for _, n := range []int{25, 26, 30, 256, 280, 5000} {
		wantNoBlocks(t, laid(counted(n), 5)...)
	}
	wantNoBlocks(t, make([][]byte, 5)...)
	wantNoBlocks(t, make([][]byte, 1<<20)...)
}

// TestEntriesTakesLittle is R1: a list may have 2^31 - 1 bytes and items, so that all that stands in them may find no room.
func TestEntriesTakesLittle(t *testing.T) {
	one := laid(counted(5), 5)[0]
	for _, l := range [][][]byte{slices.Repeat([][]byte{one}, 1<<18), {one, make([]byte, 1<<24)}} {
		var ahead, behind runtime.MemStats
		runtime.ReadMemStats(&ahead)
		wantNoBlocks(t, l...)
		runtime.ReadMemStats(&behind)
		if took := behind.TotalAlloc - ahead.TotalAlloc; took > 1<<20 {
			t.Errorf("Entries of %d blocks, the last one of %d bytes, takes %d", len(l), len(l[len(l)-1]), took)
		}
	}
}

// TestEntriesSizes is P9.1: a block has 128 bytes, whatever they begin with, and whichever of them it is.
func TestEntriesSizes(t *testing.T) {
	for _, n := range []int{1, 3, 5, 6, 24} {
		blocks := laid(counted(n), 5)
		for at, b := range blocks {
			b = append(slices.Clone(b), make([]byte, 130)...)
			for size := range b {
				l := slices.Clone(blocks)
				l[at] = b[:size]
				if size != 128 {
					wantNoBlocks(t, l...)
				}
			}
			l := slices.Clone(blocks)
			l[at] = nil
			wantNoBlocks(t, l...)
			l[at] = append(b, make([]byte, 1<<20)...)
			wantNoBlocks(t, l...)
		}
	}
}

// TestEntriesEachBit is P9.1 of each bit of blocks turned round: behind the parts there are noughts alone.
func TestEntriesEachBit(t *testing.T) {
	for _, l := range [][]api.Entry{{entry("a", 1)}, {full}, counted(3), counted(5), counted(6), counted(24)} {
		blocks := laid(l, 5)
		for at, b := range blocks {
			for i := range 8 * 128 {
				b[i/8] ^= 0x80 >> (i % 8)
				wantLikeModel(t, blocks...)
				if used := 172 * min(5, len(l)-5*at); i >= used {
					wantNoBlocks(t, blocks...)
				}
				b[i/8] ^= 0x80 >> (i % 8)
			}
		}
	}
}

// someEntries answers entries by chance, whose names rise; mostly right ones.
func someEntries(r *rand.Rand) []api.Entry {
	const from = "!-.0129AZaz~"
	var l []api.Entry
	for range r.Intn(27) {
		b := make([]byte, 1+r.Intn(r.Intn(16)+1))
		for i := range b {
			b[i] = from[r.Intn(len(from))]
		}
		e := api.Entry{Name: string(b), File: api.File{Ino: 1 + r.Intn(40), Gen: int(r.Int31())}, Kind: 1 + r.Intn(2)}
		if e.Name != "." && e.Name != ".." {
			l = append(l, e)
		}
	}
	slices.SortFunc(l, func(a, b api.Entry) int { return bytes.Compare([]byte(a.Name), []byte(b.Name)) })
	l = slices.CompactFunc(l, func(a, b api.Entry) bool { return a.Name == b.Name })
	if len(l) > 0 && r.Intn(4) == 0 {
		spoil(r, &l[r.Intn(len(l))])
	}
	return l
}

// spoil makes one part of an entry one of those about the edges.
func spoil(r *rand.Rand, e *api.Entry) {
	switch r.Intn(4) {
	case 0:
		e.Name = noNames[r.Intn(len(noNames))]
	case 1:
		e.File.Ino = someInos[r.Intn(len(someInos))]
	case 2:
		e.File.Gen = someGens[r.Intn(len(someGens))]
	case 3:
		e.Kind = someKinds[r.Intn(len(someKinds))]
	}
}

// TestByChance is P9.1 and P9.2 of entries by chance, and of their blocks with a bit turned round.
func TestByChance(t *testing.T) {
	r := rand.New(rand.NewSource(1))
	for range 4000 {
		l := someEntries(r)
		wantBoth(t, l)
		if wanted(l) == api.OK && len(l) > 0 {
			b := laid(l, 5)
			b[r.Intn(len(b))][r.Intn(128)] ^= 1 << r.Intn(8)
			wantLikeModel(t, b...)
		}
	}
}

// TestThereAndBack is P9.4, by what the package answers alone.
func TestThereAndBack(t *testing.T) {
	r := rand.New(rand.NewSource(2))
	for range 10000 {
		l := someEntries(r)
		b, e := dir.Blocks(l)
		if e != api.OK {
			continue
		}
		m, e := dir.Entries(b)
		if e != api.OK || !slices.Equal(m, l) {
			t.Fatalf("%+v there and back: %+v, error %d", l, m, e)
		}
		if again, e := dir.Blocks(m); e != api.OK || !same(again, b) {
			t.Fatalf("%x there and back: %x, error %d", b, again, e)
		}
	}
}

// TestBlocksAnswersNewMemory is R3: what is done to an answer, or to one block of it, changes nothing else.
func TestBlocksAnswersNewMemory(t *testing.T) {
	l := counted(11)
	one, _ := dir.Blocks(l)
	two, _ := dir.Blocks(l)
	want := laid(l, 5)
	for i, b := range one {
		for at := range b {
			b[at] ^= 255
		}
		_ = append(b, 1, 2, 3)
		if !same(one[i+1:], want[i+1:]) {
			t.Errorf("block %d has memory of the ones behind it", i)
		}
	}
	three, _ := dir.Blocks(l)
	if !same(two, want) || !same(three, want) {
		t.Error("an answer was changed by way of another one")
	}
	if !slices.Equal(l, counted(11)) {
		t.Errorf("Blocks changed what it was handed: %+v", l)
	}
}

// TestEntriesAnswersNewMemory is R3: what is done to an answer, or to what was handed in, changes nothing else.
func TestEntriesAnswersNewMemory(t *testing.T) {
	b := laid(counted(11), 5)
	one, _ := dir.Entries(b)
	two, _ := dir.Entries(b)
	clear(one)
	_ = append(one, full)
	if !slices.Equal(two, counted(11)) || !same(b, laid(counted(11), 5)) {
		t.Error("something was changed by way of an answer")
	}
	for _, c := range b {
		clear(c)
	}
	if !slices.Equal(two, counted(11)) {
		t.Error("an answer was changed by way of what was handed in")
	}
}

// TestEntriesLeavesBlocks is R3: bytes that are handed in stay, also those that are no entries', and what stands behind them.
func TestEntriesLeavesBlocks(t *testing.T) {
	for size := range 140 {
		b := bytes.Repeat([]byte{0x41}, 140)
		copy(b, laid([]api.Entry{full}, 5)[0])
		l := [][]byte{laid(counted(5), 5)[0], b[:size], {9}}
		kept := bytes.Clone(b)
		dir.Entries(l[:2])
		dir.Entries(l[1:2])
		if !bytes.Equal(b, kept) || !bytes.Equal(l[2], []byte{9}) || !same(l[:1], laid(counted(5), 5)) {
			t.Fatalf("Entries of %d bytes changed something", size)
		}
	}
}

// FuzzEntries is R1 and P9.2: whatever the bytes, Entries answers as their bits tell.
func FuzzEntries(f *testing.F) {
	f.Add([]byte{}, 128)
	f.Add(laid(counted(5), 5)[0], 128)
	f.Add(slices.Concat(laid(counted(24), 5)...), 128)
	f.Add(slices.Concat(laid(counted(24), 5)...), 127)
	f.Add(make([]byte, 128), 128)
	f.Fuzz(func(t *testing.T, b []byte, size int) {
		wantLikeModel(t, slices.Collect(slices.Chunk(b, max(1, min(size, 256))))...)
	})
}
