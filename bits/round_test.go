package bits_test

import (
	"bytes"
	"math/rand"
	"strconv"
	"strings"
	"testing"

	"tenancy/api"
	"tenancy/bits"
)

// item is a number of n bits, or a text where n is -1.
type item struct {
	x uint64
	n int
	s string
}

// items makes a row of them; the same for the same seed.
func items(seed int64) []item {
	r := rand.New(rand.NewSource(seed))
	l := make([]item, r.Intn(30))
	for i := range l {
		if r.Intn(4) == 0 {
			b := make([]byte, r.Intn(40))
			r.Read(b)
			l[i] = item{n: -1, s: string(b)}
		} else {
			n := r.Intn(65)
			l[i] = item{n: n, x: r.Uint64() >> (64 - n)}
		}
	}
	return l
}

// spell answers the items' bits as '0' and '1', without the package.
func spell(l []item) string {
	var out strings.Builder
	number := func(x uint64, n int) {
		s := strconv.FormatUint(x, 2)
		if n > 0 {
			out.WriteString(strings.Repeat("0", n-len(s)) + s)
		}
	}
	for _, a := range l {
		if a.n >= 0 {
			number(a.x, a.n)
			continue
		}
		number(uint64(len(a.s)), 16)
		for i := range len(a.s) {
			number(uint64(a.s[i]), 8)
		}
	}
	return out.String()
}

// put puts the items.
func put(l []item) ([]byte, api.Errno) {
	w := bits.New()
	for _, a := range l {
		if a.n < 0 {
			w.Text(a.s)
		} else {
			w.Put(a.x, a.n)
		}
	}
	return w.Done()
}

// TestRound is P1.3: what was put is got; and P1.1, against bits that were spelt out.
func TestRound(t *testing.T) {
	for seed := range int64(2000) {
		l := items(seed)
		b, e := put(l)
		if row := spell(l); e != api.OK || !bytes.Equal(b, bytesOf(row)) {
			t.Fatalf("seed %d: got %x, %d, want %s", seed, b, e, row)
		}
		r := bits.Open(b)
		for i, a := range l {
			if a.n < 0 {
				if s := r.Text(); s != a.s {
					t.Fatalf("seed %d, item %d: got %q, want %q", seed, i, s, a.s)
				}
			} else if x := r.Get(a.n); x != a.x {
				t.Fatalf("seed %d, item %d: got %d, want %d", seed, i, x, a.x)
			}
		}
		if r.Err() != api.OK || r.End() != api.OK || r.Left() >= 8 {
			t.Fatalf("seed %d: error %d, end %d, left %d", seed, r.Err(), r.End(), r.Left())
		}
	}
}

// TestRoundAllWidths is P1.3 for each number of bits, with each number of bits ahead of it.
func TestRoundAllWidths(t *testing.T) {
	for n := range 65 {
		for ahead := range 9 {
			for _, x := range []uint64{0, 1, 0x5555555555555555, 1<<64 - 1} {
				x := x & (1<<n - 1)
				b, e := bits.New().Put(0, ahead).Put(x, n).Put(1, 1).Done()
				r := bits.Open(b)
				if e != api.OK || r.Get(ahead) != 0 || r.Get(n) != x || r.Get(1) != 1 || r.End() != api.OK {
					t.Errorf("%d in %d bits behind %d: %x, %d", x, n, ahead, b, e)
				}
			}
		}
	}
}

// FuzzOpen is R1: whatever the bytes and widths, each call answers as the spelt-out bits do, and none panics.
func FuzzOpen(f *testing.F) {
	f.Add([]byte{0, 1, 'a'}, 16, 8)
	f.Add([]byte{0xa8}, 3, 2)
	f.Add([]byte{}, -1, 65)
	f.Fuzz(func(t *testing.T, b []byte, n, m int) {
		row := ""
		for _, x := range b {
			row += strings.Repeat("0", 8-len(strconv.FormatUint(uint64(x), 2))) + strconv.FormatUint(uint64(x), 2)
		}
		r, want := bits.Open(b), api.OK
		for _, k := range []int{n, m, n} {
			x, e := uint64(0), want
			if e == api.OK && (k < 0 || k > 64) {
				e = api.ErrArg
			} else if e == api.OK && k > len(row) {
				e = api.ErrShort
			}
			if want = e; e == api.OK {
				x, _ = strconv.ParseUint("0"+row[:k], 2, 64)
				row = row[k:]
			} else {
				row = ""
			}
			if got := r.Get(k); got != x || r.Err() != e || r.Left() != len(row) {
				t.Fatalf("Get(%d): %d, error %d, left %d, want %d, %d, %d", k, got, r.Err(), r.Left(), x, e, len(row))
			}
		}
	})
}
