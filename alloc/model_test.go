package alloc_test

import (
	"bytes"
	"math"
	"slices"
	"strconv"
	"strings"
	"testing"

	"tenancy/alloc"
	"tenancy/api"
)

// model is a map told without the package: which homes are taken, one by one.
type model []bool

// free answers how many homes are free.
func (l model) free() int {
	n := 0
	for _, taken := range l {
		if !taken {
			n++
		}
	}
	return n
}

// take takes the least free home.
func (l model) take() (int, api.Errno) {
	i := slices.Index(l, false)
	if i < 0 {
		return -1, api.ErrFull
	}
	l[i] = true
	return i, api.OK
}

// hold takes a home.
func (l model) hold(i int) api.Errno {
	switch {
	case i < 0 || len(l) <= i:
		return api.ErrArg
	case l[i]:
		return api.ErrThere
	}
	l[i] = true
	return api.OK
}

// give frees a home.
func (l model) give(i int) api.Errno {
	switch {
	case i < 0 || len(l) <= i:
		return api.ErrArg
	case !l[i]:
		return api.ErrNone
	}
	l[i] = false
	return api.OK
}

// bytes answers a model's sector, spelt bit by bit.
func (l model) bytes() []byte {
	var s strings.Builder
	for _, taken := range l {
		if taken {
			s.WriteByte('1')
		} else {
			s.WriteByte('0')
		}
	}
	return packed(s.String())
}

// packed answers the sector of these bits, with noughts behind.
func packed(row string) []byte {
	row += strings.Repeat("0", 8*128-len(row))
	b := make([]byte, 128)
	for i := range b {
		c, _ := strconv.ParseUint(row[8*i:8*i+8], 2, 8)
		b[i] = byte(c)
	}
	return b
}

// holding answers a model of n homes of which these are taken.
func holding(n int, homes ...int) model {
	l := make(model, n)
	for _, i := range homes {
		l[i] = true
	}
	return l
}

// every answers the numbers of n homes.
func every(n int) []int {
	l := make([]int, n)
	for i := range l {
		l[i] = i
	}
	return l
}

// counts are how many homes a test's maps have: the edges, those of bytes, and some between.
var counts = []int{1, 2, 3, 7, 8, 9, 15, 16, 17, 63, 64, 65, 66, 127, 128, 129, 511, 512, 1015, 1016, 1017, 1022, 1023, 1024}

// noHomes answers numbers of which a map of n homes has none.
func noHomes(n int) []int {
	return []int{-1, -2, -7, -8, -9, -n, -n - 1, -1023, -1024, -1025, n, n + 1, n + 7, n + 8, max(n, 1023) + 1, 2048, 1 << 32, 1<<32 + 1, -1 << 32, math.MaxInt32, math.MinInt32, math.MaxInt, math.MaxInt - 1, math.MinInt, math.MinInt + 1}
}

// newMap answers a map of n homes.
func newMap(t *testing.T, n int) *alloc.Map {
	t.Helper()
	m, e := alloc.New(n)
	if m == nil || e != api.OK {
		t.Fatalf("New(%d): error %d", n, e)
	}
	return m
}

// mapOf answers a map like a model.
func mapOf(t *testing.T, l model) *alloc.Map {
	t.Helper()
	m := newMap(t, len(l))
	for i, taken := range l {
		if taken {
			wantErr(t, "Hold", i, m.Hold(i), api.OK)
		}
	}
	return m
}

// wantErr fails the test unless a call with home i told this.
func wantErr(t *testing.T, call string, i int, got, want api.Errno) {
	t.Helper()
	if got != want {
		t.Fatalf("%s(%d): error %d, want %d", call, i, got, want)
	}
}

// wantTake fails the test unless Take answers this.
func wantTake(t *testing.T, m *alloc.Map, want int, err api.Errno) {
	t.Helper()
	if i, e := m.Take(); i != want || e != err {
		t.Fatalf("Take: %d, error %d, want %d, error %d", i, e, want, err)
	}
}

// wantLike fails the test unless all that a map tells is a model's.
func wantLike(t *testing.T, m *alloc.Map, l model) {
	t.Helper()
	for i := -40; i < len(l)+40; i++ {
		if want := i >= 0 && i < len(l) && l[i]; m.Has(i) != want {
			t.Fatalf("of %d homes Has(%d): %t, want %t", len(l), i, !want, want)
		}
	}
	if n := m.Free(); n != l.free() {
		t.Fatalf("of %d homes %d are free, want %d", len(l), n, l.free())
	}
	if b := m.Bytes(); !bytes.Equal(b, l.bytes()) {
		t.Fatalf("of %d homes Bytes: %x, want %x", len(l), b, l.bytes())
	}
}

// wantLoad fails the test unless a model's bytes are loaded as its map.
func wantLoad(t *testing.T, l model) {
	t.Helper()
	m, e := alloc.Load(l.bytes(), len(l))
	if m == nil || e != api.OK {
		t.Fatalf("Load(%x, %d): error %d", l.bytes(), len(l), e)
	}
	wantLike(t, m, l)
}

// wantNoLoad fails the test unless bytes are refused so.
func wantNoLoad(t *testing.T, b []byte, n int, want api.Errno) {
	t.Helper()
	if m, e := alloc.Load(b, n); m != nil || e != want {
		t.Fatalf("Load(%d bytes: %.260x, %d): a map: %t, error %d, want none and error %d", len(b), b, n, m != nil, e, want)
	}
}
