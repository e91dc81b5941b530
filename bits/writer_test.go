package bits_test

import (
	"bytes"
	"math"
	"strings"
	"testing"

	"tenancy/api"
	"tenancy/bits"
)

// bytesOf writes a row of '0' and '1' as bytes, with noughts behind: what Done should answer, told in another way.
func bytesOf(row string) []byte {
	var out []byte
	for len(row)%8 != 0 {
		row += "0"
	}
	for ; row != ""; row = row[8:] {
		b := byte(0)
		for _, c := range row[:8] {
			b = b*2 + byte(c-'0')
		}
		out = append(out, b)
	}
	return out
}

// wantRow fails the test unless the writer has these bits.
func wantRow(t *testing.T, name string, w *bits.Writer, row string) {
	t.Helper()
	got, e := w.Done()
	if want := bytesOf(row); e != api.OK || !bytes.Equal(got, want) {
		t.Errorf("%s: got %x, %d, want %x, 0", name, got, e, want)
	}
}

// wantRefused fails the test unless the writer has nothing but an error.
func wantRefused(t *testing.T, name string, w *bits.Writer, want api.Errno) {
	t.Helper()
	if got, e := w.Done(); len(got) != 0 || e != want {
		t.Errorf("%s: got %x, %d, want none, %d", name, got, e, want)
	}
}

// TestPut is P1.1: the highest bit first, noughts behind the last one.
func TestPut(t *testing.T) {
	wantRow(t, "none", bits.New(), "")
	wantRow(t, "no bits of 0", bits.New().Put(0, 0), "")
	wantRow(t, "one bit", bits.New().Put(1, 1), "1")
	wantRow(t, "one nought", bits.New().Put(0, 1), "0")
	wantRow(t, "the document's", bits.New().Put(5, 3).Put(1, 2), "10101")
	wantRow(t, "noughts ahead", bits.New().Put(1, 7), "0000001")
	wantRow(t, "a whole byte", bits.New().Put(0xa5, 8), "10100101")
	wantRow(t, "no byte behind a whole one", bits.New().Put(0xa5, 8).Put(0, 0), "10100101")
	wantRow(t, "over a byte's end", bits.New().Put(1, 5).Put(0x2d, 6), "00001101101")
	wantRow(t, "no bits between", bits.New().Put(3, 2).Put(0, 0).Put(1, 3), "11001")
	wantRow(t, "64 ones", bits.New().Put(math.MaxUint64, 64), strings.Repeat("1", 64))
	wantRow(t, "64 bits of 1", bits.New().Put(1, 64), strings.Repeat("0", 63)+"1")
	wantRow(t, "64 bits over bytes' ends", bits.New().Put(0, 3).Put(1<<63|1, 64).Put(1, 1), "0001"+strings.Repeat("0", 62)+"11")
}

// TestPutJustBelow is P1.1 at 2^n, for each n.
func TestPutJustBelow(t *testing.T) {
	for n := range 64 {
		wantRow(t, "2^n - 1", bits.New().Put(1<<n-1, n), strings.Repeat("1", n))
		wantRefused(t, "2^n", bits.New().Put(1<<n, n), api.ErrArg)
		wantRefused(t, "above 2^n", bits.New().Put(math.MaxUint64, n), api.ErrArg)
	}
}

// TestPutWrongWidth is P1.1: n is 0 to 64.
func TestPutWrongWidth(t *testing.T) {
	for _, n := range []int{-1, 65, -64, 128, math.MinInt, math.MaxInt} {
		wantRefused(t, "0", bits.New().Put(0, n), api.ErrArg)
		wantRefused(t, "1", bits.New().Put(1, n), api.ErrArg)
		wantRefused(t, "behind others", bits.New().Put(5, 3).Put(0, n), api.ErrArg)
	}
}

// TestWriterErrorStays is P1.1: nothing is put behind an error, and it is told each time.
func TestWriterErrorStays(t *testing.T) {
	big := strings.Repeat("a", 65536)
	wrong := map[string]func(*bits.Writer) *bits.Writer{
		"too few bits":  func(w *bits.Writer) *bits.Writer { return w.Put(8, 3) },
		"-1 bits":       func(w *bits.Writer) *bits.Writer { return w.Put(0, -1) },
		"65 bits":       func(w *bits.Writer) *bits.Writer { return w.Put(0, 65) },
		"too long text": func(w *bits.Writer) *bits.Writer { return w.Text(big) },
	}
	for name, do := range wrong {
		w := bits.New().Put(1, 1).Text("a")
		if do(w) != w || w.Put(1, 1) != w || w.Text("b") != w || w.Put(9, 65) != w {
			t.Errorf("%s: another writer was answered", name)
		}
		wantRefused(t, name, w, api.ErrArg)
		wantRefused(t, name+", again", w, api.ErrArg)
		wantRefused(t, name+", more", w.Put(1, 1).Text("c"), api.ErrArg)
	}
}

// TestWriterText is P1.1: how many bytes, in 16 bits, and the bytes.
func TestWriterText(t *testing.T) {
	const one, two = "0000000000000001", "0000000000000010"
	const a, b = "01100001", "01100010"
	wantRow(t, "empty", bits.New().Text(""), strings.Repeat("0", 16))
	wantRow(t, "the document's", bits.New().Text("a"), one+a)
	wantRow(t, "bytes, not characters", bits.New().Text("\u00e9"), two+"1100001110101001")
	wantRow(t, "bytes that are no characters", bits.New().Text("\xff\x00"), two+"1111111100000000")
	wantRow(t, "over bytes' ends", bits.New().Put(1, 1).Text("a").Put(1, 1), "1"+one+a+"1")
	wantRow(t, "two", bits.New().Text("a").Text("b"), one+a+one+b)
}

// TestWriterTextLength is P1.1 at 65535 and 65536 bytes.
func TestWriterTextLength(t *testing.T) {
	s := strings.Repeat("xyz", 21845)
	b, e := bits.New().Text(s).Done()
	if want := append([]byte{255, 255}, s...); e != api.OK || !bytes.Equal(b, want) {
		t.Errorf("65535 bytes: got %d bytes, %d", len(b), e)
	}
	b, e = bits.New().Text(s[:256]).Done()
	if want := append([]byte{1, 0}, s[:256]...); e != api.OK || !bytes.Equal(b, want) {
		t.Errorf("256 bytes: got %d bytes, %d", len(b), e)
	}
	wantRefused(t, "65536 bytes", bits.New().Text(s+"x"), api.ErrArg)
	wantRefused(t, "131072 bytes", bits.New().Text(strings.Repeat("x", 131072)), api.ErrArg)
}

// TestWriterAnswersItself is P1.1: each answers the Writer.
func TestWriterAnswersItself(t *testing.T) {
	w, v := bits.New(), bits.New()
	if w == nil || w == v {
		t.Fatal("New answers no new writer")
	}
	if w.Put(1, 1) != w || w.Text("a") != w || w.Put(0, 0) != w || w.Text("") != w {
		t.Error("another writer was answered")
	}
	wantRow(t, "the other one", v, "")
}

// TestDoneIsNewMemory is R3 of P1.1: what is done with an answer changes no other, and the writer goes on.
func TestDoneIsNewMemory(t *testing.T) {
	w := bits.New().Put(0x81, 8).Put(1, 1)
	a, _ := w.Done()
	b, _ := w.Done()
	a[0], a[1] = 0, 255
	_ = append(a[:1], 7)
	if !bytes.Equal(b, []byte{0x81, 0x80}) {
		t.Errorf("two answers share: %x", b)
	}
	wantRow(t, "behind a change", w, "100000011")
	wantRow(t, "going on", w.Put(3, 2).Put(0xff, 8), "1000000111111111111")
	if !bytes.Equal(b, []byte{0x81, 0x80}) {
		t.Errorf("an answer was changed by the writer: %x", b)
	}
}

// TestWriterNil is R1 of P1.1: a writer that is nil, or that no call made.
func TestWriterNil(t *testing.T) {
	var none *bits.Writer
	for name, w := range map[string]*bits.Writer{"nil": none, "zero": new(bits.Writer)} {
		wantRefused(t, name, w, api.ErrNil)
		wantRefused(t, name+" Put", w.Put(1, 1), api.ErrNil)
		wantRefused(t, name+" Text", w.Text("a"), api.ErrNil)
		wantRefused(t, name+" Put, wrong", w.Put(1, 65), api.ErrNil)
		wantRefused(t, name+" Put, on and on", w.Put(2, 1).Text("a").Put(1, 1), api.ErrNil)
		if w.Put(1, 1) != nil || w.Text("a") != nil {
			t.Errorf("%s: a writer was answered", name)
		}
		wantRefused(t, name+" behind all", w, api.ErrNil)
	}
}
