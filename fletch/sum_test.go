package fletch_test

import (
	"bytes"
	"math/rand"
	"testing"

	"tenancy/fletch"
)

const mod = 65535

// both puts the halves together: first is the sum of bytes, second the sum of sums.
func both(second, first int) uint32 { return uint32(second)<<16 | uint32(first) }

// weigh answers the sum of b behind s, told in another way: what stands i places before the end is counted i times in the second half.
func weigh(s uint32, b []byte) uint32 {
	first, second := uint64(s%65536), uint64(s/65536)
	second += uint64(len(b)) * first
	for i, x := range b {
		first += uint64(x)
		second += uint64(len(b)-i) * uint64(x)
	}
	return both(int(second%mod), int(first%mod))
}

// some makes n bytes; the same for the same seed.
func some(seed int64, n int) []byte {
	b := make([]byte, n)
	rand.New(rand.NewSource(seed)).Read(b)
	return b
}

// wantSum fails the test unless the bytes have this sum.
func wantSum(t *testing.T, name string, b []byte, want uint32) {
	t.Helper()
	if s := fletch.Sum(b); s != want {
		t.Errorf("%s: got %#x, want %#x", name, s, want)
	}
}

// TestSum is P2.1: sums that were made by hand.
func TestSum(t *testing.T) {
	wantSum(t, "nil", nil, 0)
	wantSum(t, "none", []byte{}, 0)
	wantSum(t, "a nought", []byte{0}, 0)
	wantSum(t, "1", []byte{1}, both(1, 1))
	wantSum(t, "255", []byte{255}, both(255, 255))
	wantSum(t, "the document's", []byte{1, 2}, both(4, 3))
	wantSum(t, "the other way round", []byte{2, 1}, both(5, 3))
	wantSum(t, "a nought ahead", []byte{0, 1}, both(1, 1))
	wantSum(t, "a nought behind", []byte{1, 0}, both(2, 1))
	wantSum(t, "abc", []byte("abc"), both(97+195+294, 294))
	wantSum(t, "noughts", make([]byte, 255), 0)
	wantSum(t, "many noughts", make([]byte, 70000), 0)
}

// TestSumAtModulus is P2.1 where a half is just below, at and just above 65535.
func TestSumAtModulus(t *testing.T) {
	full := bytes.Repeat([]byte{255}, 257) // 257 times 255 is 65535
	second := 255 * 257 * 258 / 2 % mod
	wantSum(t, "first half at it", full, both(second, 0))
	less := append(bytes.Clone(full[:256]), 254)
	wantSum(t, "first half below it", less, both((second+mod-1)%mod, 65534))
	wantSum(t, "first half above it", append(bytes.Clone(full), 1), both((second+1)%mod, 1))
	// 1 and noughts behind: the first half stays 1, the second one counts the bytes.
	for _, n := range []int{65533, 65534, 65535, 65536, 65537} {
		b := make([]byte, n)
		b[0] = 1
		wantSum(t, "second half about it", b, both(n%mod, 1))
	}
}

// TestSumLong is P2.1 of so many bytes that sums which are not taken mod 65535 on the way outgrow 32 bits.
func TestSumLong(t *testing.T) {
	const n = 1<<24 + 3<<10 + 7
	b := bytes.Repeat([]byte{255}, n)
	wantSum(t, "long", b, both(n*(n+1)/2%mod*255%mod, n*255%mod))
	b = some(1, 1<<20+1)
	wantSum(t, "long, all kinds", b, weigh(0, b))
}

// TestSumAgainstWeights is P2.1 of each length up to 600 bytes.
func TestSumAgainstWeights(t *testing.T) {
	for n := range 600 {
		b := some(int64(n), n)
		wantSum(t, "some", b, weigh(0, b))
	}
}

// TestAdd is P2.1 behind what was summed.
func TestAdd(t *testing.T) {
	tests := []struct {
		s    uint32
		b    []byte
		want uint32
	}{
		{0, nil, 0},
		{0, []byte{1, 2}, both(4, 3)},
		{both(4, 3), nil, both(4, 3)},
		{both(4, 3), []byte{}, both(4, 3)},
		{both(4, 3), []byte{0}, both(7, 3)},
		{both(4, 3), []byte{5}, both(12, 8)},
		{both(0, 3), []byte{0, 0}, both(6, 3)},
		{both(7, 0), []byte{0, 0}, both(7, 0)},
		{both(65534, 65534), nil, both(65534, 65534)},
		{both(0, 65534), []byte{1}, both(0, 0)},
		{both(0, 65534), []byte{2}, both(1, 1)},
		{both(65534, 0), []byte{1}, both(0, 1)},
		{both(65534, 65534), []byte{255}, both(253, 254)},
	}
	for _, c := range tests {
		if s := fletch.Add(c.s, c.b); s != c.want {
			t.Errorf("Add(%#x, %x): got %#x, want %#x", c.s, c.b, s, c.want)
		}
	}
}

// TestAddWrongHalves is P2.1 of halves that no sum has: of what they leave mod 65535.
func TestAddWrongHalves(t *testing.T) {
	for _, b := range [][]byte{nil, {}, {0}, {1}, {1, 2}, {255, 255, 255}, some(3, 300)} {
		for _, half := range []int{0, 1, 2, 65534} {
			want := fletch.Add(both(half, 0), b)
			if s := fletch.Add(both(half, mod), b); s != want {
				t.Errorf("first half wrong, second %d, %x: got %#x, want %#x", half, b, s, want)
			}
			want = fletch.Add(both(0, half), b)
			if s := fletch.Add(both(mod, half), b); s != want {
				t.Errorf("second half wrong, first %d, %x: got %#x, want %#x", half, b, s, want)
			}
		}
		if s := fletch.Add(1<<32-1, b); s != fletch.Sum(b) {
			t.Errorf("both halves wrong, %x: got %#x, want %#x", b, s, fletch.Sum(b))
		}
	}
	if s := fletch.Add(both(mod, mod), nil); s != 0 {
		t.Errorf("both halves wrong, none behind: got %#x", s)
	}
	if s := fletch.Add(both(mod, 7), nil); s != both(0, 7) {
		t.Errorf("second half wrong, none behind: got %#x", s)
	}
	if s := fletch.Add(both(7, mod), nil); s != both(7, 0) {
		t.Errorf("first half wrong, none behind: got %#x", s)
	}
}

// TestAnotherByte is P2.2: a byte that is another one has another sum, wherever it stands.
func TestAnotherByte(t *testing.T) {
	for _, at := range []int{0, 1, 64, 127} {
		seen := map[uint32]int{}
		b := some(5, 128)
		for x := range 256 {
			b[at] = byte(x)
			s := fletch.Sum(b)
			if y, ok := seen[s]; ok {
				t.Errorf("at %d: %d and %d have the sum %#x", at, x, y, s)
			}
			seen[s] = x
		}
	}
}

// TestNeighbours is P2.2: neighbours that change places have another sum, where they are not the same.
func TestNeighbours(t *testing.T) {
	for x := range 256 {
		for y := range 256 {
			b := []byte{9, byte(x), byte(y), 200}
			c := []byte{9, byte(y), byte(x), 200}
			if same := fletch.Sum(b) == fletch.Sum(c); same != (x == y) {
				t.Errorf("%d and %d: the same sum: %t", x, y, same)
			}
		}
	}
	b := some(6, 1000)
	s := fletch.Sum(b)
	for i := range len(b) - 1 {
		b[i], b[i+1] = b[i+1], b[i]
		if same := fletch.Sum(b) == s; same != (b[i] == b[i+1]) {
			t.Errorf("%d and %d: the same sum: %t", i, i+1, same)
		}
		b[i], b[i+1] = b[i+1], b[i]
	}
}

// TestPieces is P2.2: Add of pieces is Sum of all, wherever they are cut.
func TestPieces(t *testing.T) {
	b := some(7, 700)
	want := fletch.Sum(b)
	for i := range len(b) + 1 {
		if s := fletch.Add(fletch.Sum(b[:i]), b[i:]); s != want {
			t.Errorf("cut at %d: got %#x, want %#x", i, s, want)
		}
	}
	for size := 1; size < 300; size++ {
		s := fletch.Sum(nil)
		for rest := b; len(rest) > 0; {
			n := min(size, len(rest))
			s, rest = fletch.Add(s, rest[:n]), rest[n:]
		}
		if s != want {
			t.Errorf("pieces of %d: got %#x, want %#x", size, s, want)
		}
	}
}

// TestHandedIn is R3 of P2.1: what is handed in is not changed, and what stands behind it is not summed.
func TestHandedIn(t *testing.T) {
	b := some(8, 100)
	before := bytes.Clone(b)
	s := fletch.Sum(b[:50])
	fletch.Add(s, b[50:90])
	if !bytes.Equal(b, before) {
		t.Error("what was handed in was changed")
	}
	if again := fletch.Sum(bytes.Clone(b[:50])); again != s {
		t.Errorf("got %#x, then %#x", s, again)
	}
}

// FuzzAdd is R1 and P2.1: whatever is handed in, the sum is that of the weights, and its halves are below 65535.
func FuzzAdd(f *testing.F) {
	f.Add(uint32(0), []byte("ab"))
	f.Add(both(mod, mod), []byte{255})
	f.Add(both(65534, 65534), []byte{})
	f.Fuzz(func(t *testing.T, s uint32, b []byte) {
		got := fletch.Add(s, b)
		if got != weigh(s, b) || got%65536 >= mod || got/65536 >= mod {
			t.Errorf("Add(%#x, %x): got %#x, want %#x", s, b, got, weigh(s, b))
		}
	})
}
