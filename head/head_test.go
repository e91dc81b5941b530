package head_test

import (
	"bytes"
	"encoding/binary"
	"math"
	"slices"
	"testing"

	"tenancy/api"
	"tenancy/disk"
	"tenancy/head"
)

const (
	maxCount = 1<<40 - 1
	maxEpoch = 1<<24 - 1
)

// sumOf answers the sum of bytes, told in another way than fletch does: what stands i places before the end is counted i times in the second half.
func sumOf(b []byte) uint32 {
	first, second := 0, 0
	for i, x := range b {
		first += int(x)
		second += (len(b) - i) * int(x)
	}
	return uint32(second%65535)<<16 | uint32(first%65535)
}

// pieceOf answers a sector of these parts, whether it is a piece's or not; its sum and both its stamps are right.
func pieceOf(epoch, count uint64, flags, size byte, body []byte) []byte {
	stamp := epoch<<40 | count
	b := binary.BigEndian.AppendUint64(nil, stamp)
	b = append(b, flags, size)
	b = append(b, body...)
	b = append(b, make([]byte, 116-len(b))...)
	b = binary.BigEndian.AppendUint32(b, sumOf(b))
	return binary.BigEndian.AppendUint64(b, stamp)
}

// dataOf answers what a head's piece has as its Data.
func dataOf(h head.Head) []byte { return binary.BigEndian.AppendUint64(nil, h.Tail<<24|h.Floor) }

// sectorOf answers the sector that a head should have.
func sectorOf(epoch uint64, h head.Head) []byte {
	return pieceOf(epoch, h.Gen, 3, 8, dataOf(h))
}

// headOf answers the head that a sector should have: it tries the one that the sector's parts would be.
func headOf(b []byte) (head.Head, bool) {
	stamp, data := binary.BigEndian.Uint64(b), binary.BigEndian.Uint64(b[10:])
	h := head.Head{Gen: stamp % (1 << 40), Tail: data / (1 << 24), Floor: data % (1 << 24)}
	if !bytes.Equal(b, sectorOf(stamp/(1<<40), h)) {
		return head.Head{}, false
	}
	return h, true
}

// wantOf answers what Load should answer of these two sectors.
func wantOf(even, odd []byte) (head.Head, bool) {
	l := []head.Head{}
	if h, ok := headOf(even); ok && h.Gen%2 == 0 {
		l = append(l, h)
	}
	if h, ok := headOf(odd); ok && h.Gen%2 == 1 {
		l = append(l, h)
	}
	if len(l) == 0 {
		return head.Head{}, false
	}
	return slices.MaxFunc(l, func(x, y head.Head) int { return int(x.Gen) - int(y.Gen) }), true
}

// newDisk answers a disk of n sectors.
func newDisk(t testing.TB, n int) *disk.Disk {
	t.Helper()
	d, e := disk.New(n)
	if d == nil || e != api.OK {
		t.Fatalf("New(%d): error %d", n, e)
	}
	return d
}

// filled answers a disk whose sectors are such as no other one is, and last.
func filled(t testing.TB, n int) *disk.Disk {
	t.Helper()
	d := newDisk(t, n)
	for i := range n {
		put(t, d, i, bytes.Repeat([]byte{byte(0xA0 + i)}, 128))
	}
	wantErr(t, "Flush", d.Flush(), api.OK)
	return d
}

// put writes a sector.
func put(t testing.TB, d *disk.Disk, i int, b []byte) {
	t.Helper()
	wantErr(t, "Write", d.Write(i, b), api.OK)
}

// all answers all of a disk's bytes.
func all(t testing.TB, d *disk.Disk) []byte {
	t.Helper()
	l := []byte{}
	for i := range d.Size() {
		b, e := d.Read(i)
		wantErr(t, "Read", e, api.OK)
		l = append(l, b...)
	}
	return l
}

// wantErr fails the test unless an error is the one that is wanted.
func wantErr(t testing.TB, name string, got, want api.Errno) {
	t.Helper()
	if got != want {
		t.Errorf("%s: error %d, want %d", name, got, want)
	}
}

// wantSectors fails the test unless a disk has these sectors and no others.
func wantSectors(t testing.TB, name string, d *disk.Disk, want ...[]byte) {
	t.Helper()
	if b := all(t, d); !bytes.Equal(b, slices.Concat(want...)) {
		t.Errorf("%s: the disk is %x, want %x", name, b, want)
	}
}

// wantLoad fails the test unless Load answers this head.
func wantLoad(t testing.TB, name string, d *disk.Disk, at int, want head.Head) {
	t.Helper()
	if h, ok, e := head.Load(d, at); h != want || !ok || e != api.OK {
		t.Errorf("%s: %+v, %t, error %d, want %+v", name, h, ok, e, want)
	}
}

// wantNoHead fails the test unless Load answers none, and this error.
func wantNoHead(t testing.TB, name string, d *disk.Disk, at int, want api.Errno) {
	t.Helper()
	if h, ok, e := head.Load(d, at); h != (head.Head{}) || ok || e != want {
		t.Errorf("%s: %+v, %t, error %d, want none, error %d", name, h, ok, e, want)
	}
}

// wrongPlaces answers places at which a disk of n sectors has not two.
func wrongPlaces(n int) []int {
	return []int{-1, -2, n - 1, n, n + 1, -n, math.MinInt, math.MinInt + 1, math.MaxInt, math.MaxInt - 1, 1 << 32}
}

// edges answers the heads at the edges of each part, and some between.
func edges() []head.Head {
	l := []head.Head{}
	for _, gen := range []uint64{0, 1, 2, 3, 254, 255, 256, 257, 1 << 32, maxCount - 1, maxCount} {
		for _, tail := range []uint64{0, 1, 0x123456789A, 1 << 39, maxCount} {
			for _, floor := range []uint64{0, 1, 0xBCDEF1, 1 << 23, maxEpoch} {
				l = append(l, head.Head{Gen: gen, Tail: tail, Floor: floor})
			}
		}
	}
	return l
}
