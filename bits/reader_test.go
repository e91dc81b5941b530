package bits_test

import (
	"math"
	"strings"
	"testing"

	"tenancy/api"
	"tenancy/bits"
)

// wantGet fails the test unless the next n bits are want, and left are left behind them.
func wantGet(t *testing.T, r *bits.Reader, n int, want uint64, left int) {
	t.Helper()
	if x := r.Get(n); x != want || r.Err() != api.OK || r.Left() != left {
		t.Errorf("Get(%d): %d, error %d, left %d, want %d, 0, %d", n, x, r.Err(), r.Left(), want, left)
	}
}

// wantStuck fails the test unless the reader has nothing but an error.
func wantStuck(t *testing.T, name string, r *bits.Reader, want api.Errno) {
	t.Helper()
	for range 2 {
		if r.Err() != want || r.End() != want || r.Left() != 0 {
			t.Errorf("%s: error %d, end %d, left %d, want %d", name, r.Err(), r.End(), r.Left(), want)
		}
		for _, n := range []int{0, 1, 64, 65, -1} {
			if x := r.Get(n); x != 0 {
				t.Errorf("%s: got %d behind an error", name, x)
			}
		}
		if s := r.Text(); s != "" {
			t.Errorf("%s: got %q behind an error", name, s)
		}
	}
}

// TestGet is P1.2: the next n bits, the highest first.
func TestGet(t *testing.T) {
	r := bits.Open([]byte{0xa8, 0x0f, 0xff})
	wantGet(t, r, 3, 5, 21)
	wantGet(t, r, 0, 0, 21)
	wantGet(t, r, 2, 1, 19)
	wantGet(t, r, 8, 1, 11)
	wantGet(t, r, 1, 1, 10)
	wantGet(t, r, 10, 1023, 0)
	wantGet(t, r, 0, 0, 0)
}

// TestGetWide is P1.2 at 64 bits, at a byte's beginning and within one.
func TestGetWide(t *testing.T) {
	b := []byte{0x80, 0, 0, 0, 0, 0, 0, 1, 0x81}
	r := bits.Open(b)
	wantGet(t, r, 64, 1<<63|1, 8)
	wantGet(t, r, 8, 0x81, 0)
	r = bits.Open(b)
	wantGet(t, r, 7, 0x40, 65)
	wantGet(t, r, 64, 1<<7|0x40, 1)
	wantGet(t, r, 1, 1, 0)
}

// TestGetEach is P1.2: each bit is got once, whatever stands about it.
func TestGetEach(t *testing.T) {
	for i := range 24 {
		b := make([]byte, 3)
		b[i/8] = 128 >> (i % 8)
		r := bits.Open(b)
		for j := range 24 {
			want := uint64(0)
			if i == j {
				want = 1
			}
			wantGet(t, r, 1, want, 23-j)
		}
	}
}

// TestGetWrongWidth is P1.2: n is 0 to 64, which is asked ahead of how many bits there are.
func TestGetWrongWidth(t *testing.T) {
	for _, n := range []int{-1, 65, -8, math.MinInt, math.MaxInt} {
		for _, b := range [][]byte{nil, {1}, make([]byte, 40)} {
			r := bits.Open(b)
			if x := r.Get(n); x != 0 {
				t.Errorf("Get(%d): %d", n, x)
			}
			wantStuck(t, "no width", r, api.ErrArg)
		}
	}
}

// TestGetShort is P1.2: fewer bits than are asked for.
func TestGetShort(t *testing.T) {
	for size := range 9 {
		for read := 0; read <= min(8*size, 63); read++ {
			r := bits.Open([]byte(strings.Repeat("\xff", size)))
			r.Get(read)
			if n := 8*size - read + 1; n <= 64 {
				if x := r.Get(n); x != 0 {
					t.Errorf("%d bytes, %d bits read: Get(%d) is %d", size, read, n, x)
				}
				wantStuck(t, "short", r, api.ErrShort)
			}
		}
	}
}

// TestReaderErrorStays is P1.2: the first error is the one that stays.
func TestReaderErrorStays(t *testing.T) {
	r := bits.Open([]byte{1})
	r.Get(9)
	r.Get(65)
	wantStuck(t, "short, then no width", r, api.ErrShort)
	r = bits.Open([]byte{1})
	r.Get(65)
	r.Get(9)
	wantStuck(t, "no width, then short", r, api.ErrArg)
	r = bits.Open([]byte{1})
	r.Text()
	r.Get(-1)
	wantStuck(t, "short text, then no width", r, api.ErrShort)
}

// TestReaderText is P1.2: a text, wherever it begins.
func TestReaderText(t *testing.T) {
	r := bits.Open([]byte{0, 1, 'a', 0, 0, 0, 2, 0xff, 0})
	for _, want := range []string{"a", "", "\xff\x00"} {
		if s := r.Text(); s != want || r.Err() != api.OK {
			t.Errorf("got %q, %d, want %q", s, r.Err(), want)
		}
	}
	if r.Left() != 0 || r.End() != api.OK {
		t.Errorf("left %d, end %d", r.Left(), r.End())
	}
	r = bits.Open(bytesOf("1" + "0000000000000001" + "01100001" + "1"))
	wantGet(t, r, 1, 1, 31)
	if s := r.Text(); s != "a" || r.Left() != 7 {
		t.Errorf("within a byte: got %q, left %d", s, r.Left())
	}
	wantGet(t, r, 1, 1, 6)
}

// TestReaderTextLength is P1.2 at 65535 bytes, and at one that is not there.
func TestReaderTextLength(t *testing.T) {
	b := append([]byte{255, 255}, strings.Repeat("xyz", 21845)...)
	r := bits.Open(b)
	if s := r.Text(); s != string(b[2:]) || r.End() != api.OK {
		t.Errorf("got %d bytes, end %d", len(s), r.End())
	}
	r = bits.Open(b[:len(b)-1])
	if s := r.Text(); s != "" {
		t.Errorf("got %d bytes of 65534", len(s))
	}
	wantStuck(t, "65534 of 65535", r, api.ErrShort)
}

// TestReaderTextShort is P1.2: a length or bytes that are not there.
func TestReaderTextShort(t *testing.T) {
	for _, b := range [][]byte{nil, {0}, {0, 1}, {1, 0}, {0, 2, 'a'}, {255, 255, 'a'}} {
		r := bits.Open(b)
		if s := r.Text(); s != "" {
			t.Errorf("%x: got %q", b, s)
		}
		wantStuck(t, "short text", r, api.ErrShort)
	}
	// From the third bit on: a length of 1, and fewer bits behind it than a byte has.
	r := bits.Open(bytesOf("11" + "0000000000000001" + "011000"))
	r.Get(2)
	if s := r.Text(); s != "" {
		t.Errorf("6 bits of a byte: got %q", s)
	}
	wantStuck(t, "6 bits of a byte", r, api.ErrShort)
}

// TestEnd is P1.2: fewer than 8 bits may be left, all of them noughts.
func TestEnd(t *testing.T) {
	for read := range 17 {
		for one := -1; one < 16; one++ { // which bit is no nought, if one is
			b := make([]byte, 2)
			if one >= 0 {
				b[one/8] = 128 >> (one % 8)
			}
			want := api.OK
			if 16-read >= 8 || one >= read {
				want = api.ErrRest
			}
			r := bits.Open(b)
			r.Get(read)
			if e := r.End(); e != want {
				t.Errorf("%x, %d bits read: got %d, want %d", b, read, e, want)
			}
		}
	}
	if e := bits.Open(nil).End(); e != api.OK {
		t.Errorf("no bytes: %d", e)
	}
	if e := bits.Open(make([]byte, 1)).End(); e != api.ErrRest {
		t.Errorf("8 noughts: %d", e)
	}
}

// TestEndReadsNothing is P1.2: End tells, and what is left is there as before.
func TestEndReadsNothing(t *testing.T) {
	r := bits.Open([]byte{0xf0, 0x11})
	if e := r.End(); e != api.ErrRest || r.Err() != api.OK || r.Left() != 16 {
		t.Errorf("end %d, error %d, left %d", e, r.Err(), r.Left())
	}
	wantGet(t, r, 12, 0xf01, 4)
	if e := r.End(); e != api.ErrRest || r.Err() != api.OK {
		t.Errorf("end %d, error %d", e, r.Err())
	}
	wantGet(t, r, 4, 1, 0)
	s := bits.Open([]byte{0x80})
	s.Get(1)
	if e := s.End(); e != api.OK {
		t.Errorf("end %d", e)
	}
	wantGet(t, s, 7, 0, 0)
}

// TestLeft is P1.2: 8 bits a byte.
func TestLeft(t *testing.T) {
	for n := range 20 {
		if l := bits.Open(make([]byte, n)).Left(); l != 8*n {
			t.Errorf("%d bytes: %d bits", n, l)
		}
	}
}

// TestOpenKeepsNothing is R3 of P1.2: what was handed in is neither changed nor kept.
func TestOpenKeepsNothing(t *testing.T) {
	b := []byte{0, 1, 'a', 0x80}
	r := bits.Open(b)
	b[1], b[2], b[3] = 9, 'z', 0
	s := r.Text()
	if s != "a" || r.Get(1) != 1 || r.End() != api.OK {
		t.Errorf("got %q, error %d, end %d", s, r.Err(), r.End())
	}
	if string(b) != "\x00\x09z\x00" {
		t.Errorf("what was handed in was changed: %x", b)
	}
}

// TestReaderNil is R1 of P1.2: a reader that is nil, or that no call made.
func TestReaderNil(t *testing.T) {
	var none *bits.Reader
	wantStuck(t, "nil", none, api.ErrNil)
	wantStuck(t, "zero", new(bits.Reader), api.ErrNil)
	if bits.Open(nil).Err() != api.OK || bits.Open([]byte{}).Err() != api.OK {
		t.Error("a reader of no bytes is none")
	}
}
