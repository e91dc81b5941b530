package alloc_test

import (
	"bytes"
	"encoding/hex"
	"math/rand"
	"slices"
	"strings"
	"testing"

	"tenancy/alloc"
	"tenancy/api"
)

// TestBytesByHand is P10.3 of sectors written out by hand.
func TestBytesByHand(t *testing.T) {
	for _, c := range []struct {
		n     int
		homes []int
		b     string
	}{
		{1, nil, "00"},
		{1, []int{0}, "80"},
		{8, []int{7}, "01"},
		{9, []int{8}, "0080"},
		{66, []int{0, 1, 2, 3, 4, 5, 6, 7, 65}, "ff00000000000000" + "40"},
		{20, []int{1, 6, 10, 13, 16, 19}, "4224" + "90"},
		{1024, []int{1016, 1023}, strings.Repeat("00", 127) + "81"},
		{1024, every(1024), strings.Repeat("ff", 128)},
		{1023, every(1023), strings.Repeat("ff", 127) + "fe"},
		{42, every(42), "ffffffffffc0"},
	} {
		b, err := hex.DecodeString(c.b)
		if err != nil {
			t.Fatal(err)
		}
		want := append(b, make([]byte, 128-len(b))...)
		l := holding(c.n, c.homes...)
		if b := mapOf(t, l).Bytes(); !bytes.Equal(b, want) {
			t.Errorf("Bytes of %d of %d homes: %x, want %x", c.homes, c.n, b, want)
		}
		m, e := alloc.Load(want, c.n)
		if m == nil || e != api.OK {
			t.Fatalf("Load(%x, %d): error %d", want, c.n, e)
		}
		wantLike(t, m, l)
	}
}

// TestLoadEachHome is P10.3 of each home alone, taken or free, and of all and none.
func TestLoadEachHome(t *testing.T) {
	for _, n := range counts {
		wantLoad(t, holding(n))
		wantLoad(t, holding(n, every(n)...))
		for i := range n {
			wantLoad(t, holding(n, i))
			l := holding(n, every(n)...)
			l[i] = false
			wantLoad(t, l)
		}
	}
}

// TestLoadEachCount is P10.3 of each number of homes: nothing may be taken behind the last of them.
func TestLoadEachCount(t *testing.T) {
	for n := 1; n <= 1024; n++ {
		l := holding(n, every(n)...)
		wantLoad(t, l)
		if n > 1 {
			wantNoLoad(t, l.bytes(), n-1, api.ErrForm)
		}
		if n < 1024 {
			more := holding(n+1, n)
			wantNoLoad(t, more.bytes(), n, api.ErrForm)
			wantLoad(t, more)
		}
	}
}

// TestLoadBehind is P10.3: each bit behind the last home is refused, whatever the homes are.
func TestLoadBehind(t *testing.T) {
	for _, n := range counts {
		for at := n; at < 1024; at++ {
			for _, l := range []model{holding(1024), holding(1024, every(n)...), holding(1024, n-1), holding(1024, 0)} {
				l[at] = true
				wantNoLoad(t, l.bytes(), n, api.ErrForm)
			}
		}
	}
}

// TestLoadLengths is P10.3: only 128 bytes are a map's.
func TestLoadLengths(t *testing.T) {
	wantNoLoad(t, nil, 8, api.ErrForm)
	for _, n := range counts {
		for _, size := range []int{0, 1, 2, 16, 64, 127, 129, 130, 255, 256, 1024, 1 << 16} {
			wantNoLoad(t, make([]byte, size), n, api.ErrForm)
			b := holding(n, every(n)...).bytes()
			wantNoLoad(t, append(b, make([]byte, size)...)[:size], n, api.ErrForm)
		}
	}
}

// TestLoadWrongCount is P10.3: ErrArg of a number of homes that no map has, whatever the bytes are.
func TestLoadWrongCount(t *testing.T) {
	for _, n := range wrongCounts {
		for _, b := range [][]byte{nil, {}, {1}, make([]byte, 127), make([]byte, 128), bytes.Repeat([]byte{255}, 128), make([]byte, 129)} {
			wantNoLoad(t, b, n, api.ErrArg)
		}
	}
}

// TestBytesApart is R3: Bytes answers new memory, and Load neither changes nor keeps what it is handed.
func TestBytesApart(t *testing.T) {
	for _, n := range counts {
		l := holding(n, 0, n/2)
		m := mapOf(t, l)
		a, b := m.Bytes(), m.Bytes()
		for i := range a[:cap(a)] {
			a[:cap(a)][i] ^= 255
		}
		if !bytes.Equal(b, l.bytes()) {
			t.Fatal("two answers of Bytes share memory")
		}
		wantLike(t, m, l)
		in := slices.Clone(b)
		c, e := alloc.Load(in, n)
		if e != api.OK || !bytes.Equal(in, b) {
			t.Fatalf("Load: error %d, or it changed %x to %x", e, b, in)
		}
		for i := range in {
			in[i] ^= 255
		}
		wantLike(t, c, l)
		want := slices.Clone(l)
		i, err := want.take()
		wantTake(t, c, i, err)
		wantLike(t, c, want)
		if !bytes.Equal(b, l.bytes()) {
			t.Fatal("what Bytes answered was changed")
		}
	}
}

// TestLoadUsed is P10.4: a map that was loaded goes on as the one whose bytes they are.
func TestLoadUsed(t *testing.T) {
	for _, n := range counts {
		l := holding(n, n-1)
		m, e := alloc.Load(l.bytes(), n)
		if m == nil || e != api.OK {
			t.Fatalf("Load: error %d", e)
		}
		for _, i := range noHomes(n) {
			wantErr(t, "Hold", i, m.Hold(i), api.ErrArg)
			wantErr(t, "Give", i, m.Give(i), api.ErrArg)
		}
		wantErr(t, "Hold", n-1, m.Hold(n-1), api.ErrThere)
		for i := range n - 1 {
			wantTake(t, m, i, api.OK)
		}
		wantTake(t, m, -1, api.ErrFull)
		wantErr(t, "Give", n-1, m.Give(n-1), api.OK)
		wantTake(t, m, n-1, api.OK)
		wantLike(t, m.Copy(), holding(n, every(n)...))
	}
}

// TestLoadByChance is P10.3 and P10.4 of bits by chance: they are a map's, unless one stands behind the last home.
func TestLoadByChance(t *testing.T) {
	r := rand.New(rand.NewSource(6))
	for range 4000 {
		n, size := 1+r.Intn(1024), 1+r.Intn(1024)
		l := make(model, size)
		for i := range l {
			l[i] = r.Intn(3) == 0
		}
		if size > n && slices.Contains(l[n:], true) {
			wantNoLoad(t, l.bytes(), n, api.ErrForm)
			continue
		}
		homes := make(model, n)
		copy(homes, l)
		wantLoad(t, homes)
	}
}
