// Package bits is layer 1: see shared/doc/01-bits.md.
package bits

import (
	"slices"

	"tenancy/api"
)

const (
	byteBits   = 8
	numberBits = 64
	lengthBits = 16
	maxText    = 1<<lengthBits - 1
)

// Writer is a row of bits that grows.
type Writer struct {
	made bool // a zero Writer must be told from an empty one
	err  api.Errno
	row  []byte
	room int // bits of row's last byte that are not put yet
}

// Reader goes through bits.
type Reader struct {
	made bool // a zero Reader must be told from one of no bytes
	err  api.Errno
	row  []byte
	at   int // bits that were read
}

// New answers a writer without bits.
func New() *Writer { return &Writer{made: true} }

// Put puts a number behind.
func (w *Writer) Put(x uint64, n int) *Writer {
	if w == nil || !w.made {
		return nil
	}
	if w.err != api.OK {
		return w
	}
	if !isWidth(n) || x>>n != 0 {
		return w.fail()
	}
	w.lay(x, n)
	return w
}

// Text puts a text behind.
func (w *Writer) Text(s string) *Writer {
	if w == nil || !w.made {
		return nil
	}
	if w.err != api.OK {
		return w
	}
	if len(s) > maxText {
		return w.fail()
	}
	w.lay(uint64(len(s)), lengthBits)
	for i := range len(s) {
		w.lay(uint64(s[i]), byteBits)
	}
	return w
}

// Done answers all bits as bytes.
func (w *Writer) Done() ([]byte, api.Errno) {
	if w == nil || !w.made {
		return nil, api.ErrNil
	}
	if w.err != api.OK {
		return nil, w.err
	}
	// The writer may go on, so its own row is not handed out.
	return slices.Clone(w.row), api.OK
}

// fail lets the bits go: with an error nobody gets them any more.
func (w *Writer) fail() *Writer {
	w.err, w.row, w.room = api.ErrArg, nil, 0
	return w
}

// lay puts n bits behind; x has no others.
func (w *Writer) lay(x uint64, n int) {
	for n > 0 {
		if w.room == 0 {
			w.row = append(w.row, 0)
			w.room = byteBits
		}
		k := min(n, w.room)
		n -= k
		w.room -= k
		w.row[len(w.row)-1] |= byte(x>>n) << w.room
		x &= 1<<n - 1
	}
}

// Open answers a reader of bytes.
func Open(b []byte) *Reader { return &Reader{made: true, row: slices.Clone(b)} }

// Get reads a number.
func (r *Reader) Get(n int) uint64 {
	if r.Err() != api.OK {
		return 0
	}
	if !isWidth(n) {
		r.fail(api.ErrArg)
		return 0
	}
	if n > r.Left() {
		r.fail(api.ErrShort)
		return 0
	}
	return r.take(n)
}

// Text reads a text.
func (r *Reader) Text() string {
	n := int(r.Get(lengthBits))
	if r.Err() != api.OK {
		return ""
	}
	if n*byteBits > r.Left() {
		r.fail(api.ErrShort)
		return ""
	}
	b := make([]byte, n)
	for i := range n {
		b[i] = byte(r.take(byteBits))
	}
	return string(b)
}

// Err answers the error that stays.
func (r *Reader) Err() api.Errno {
	if r == nil || !r.made {
		return api.ErrNil
	}
	return r.err
}

// End tells whether all was read.
func (r *Reader) End() api.Errno {
	if e := r.Err(); e != api.OK {
		return e
	}
	// Copied, so that a rest that is looked at is not read.
	rest := *r
	if n := r.Left(); n >= byteBits || rest.take(n) != 0 {
		return api.ErrRest
	}
	return api.OK
}

// Left answers how many bits are left.
func (r *Reader) Left() int {
	if r.Err() != api.OK {
		return 0
	}
	return len(r.row)*byteBits - r.at
}

// fail lets the bits go: with an error nobody gets them any more.
func (r *Reader) fail(e api.Errno) {
	r.err, r.row, r.at = e, nil, 0
}

// take reads n bits, of which the caller knows that they are there.
func (r *Reader) take(n int) uint64 {
	var x uint64
	for n > 0 {
		room := byteBits - r.at%byteBits
		k := min(n, room)
		part := r.row[r.at/byteBits] >> (room - k)
		x = x<<k | uint64(part)&(1<<k-1)
		r.at += k
		n -= k
	}
	return x
}

// isWidth tells whether a number can have n bits.
func isWidth(n int) bool { return n >= 0 && n <= numberBits }
