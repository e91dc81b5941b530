package disk_test

import (
	"bytes"
	"math"
	"slices"
	"testing"

	"tenancy/api"
	"tenancy/disk"
)

// full answers a sector of one byte.
func full(c byte) []byte { return bytes.Repeat([]byte{c}, api.Sector) }

// front answers a sector whose first n bytes are b's, and the others a's.
func front(n int, b, a byte) []byte { return append(full(b)[:n:n], full(a)[n:]...) }

// newDisk answers a disk of n sectors.
func newDisk(t *testing.T, n int) *disk.Disk {
	t.Helper()
	d, e := disk.New(n)
	if d == nil || e != api.OK {
		t.Fatalf("New(%d): error %d", n, e)
	}
	return d
}

// wantErr fails the test unless an error is the one that is wanted.
func wantErr(t *testing.T, name string, got, want api.Errno) {
	t.Helper()
	if got != want {
		t.Errorf("%s: error %d, want %d", name, got, want)
	}
}

// wantRead fails the test unless sector i is want.
func wantRead(t *testing.T, name string, d *disk.Disk, i int, want []byte) {
	t.Helper()
	if b, e := d.Read(i); e != api.OK || !bytes.Equal(b, want) {
		t.Errorf("%s: sector %d is %x, error %d, want %x", name, i, b, e, want)
	}
}

// wantNone fails the test unless Read(i) answers nothing but an error.
func wantNone(t *testing.T, name string, d *disk.Disk, i int, want api.Errno) {
	t.Helper()
	if b, e := d.Read(i); e != want || len(b) != 0 {
		t.Errorf("%s: Read(%d) is %x, error %d, want error %d", name, i, b, e, want)
	}
}

// wantWaits fails the test unless just these sectors wait.
func wantWaits(t *testing.T, name string, d *disk.Disk, want ...int) {
	t.Helper()
	if l := d.Waits(); !slices.Equal(l, want) {
		t.Errorf("%s: %v wait, want %v", name, l, want)
	}
}

// wrongPlaces answers places that are no sectors of a disk of n.
func wrongPlaces(n int) []int {
	return []int{-1, n, n + 1, -n, math.MinInt, math.MaxInt, api.MaxSectors}
}

// TestNew is P3.1: 1 to MaxSectors sectors, at first noughts.
func TestNew(t *testing.T) {
	for _, n := range []int{1, 2, 3, 4095, 4096} {
		d := newDisk(t, n)
		if d.Size() != n || !d.Live() {
			t.Errorf("New(%d): size %d, live %t", n, d.Size(), d.Live())
		}
		for i := range n {
			wantRead(t, "new", d, i, full(0))
		}
		wantWaits(t, "new", d)
	}
}

// TestNewWrong is P3.1: no disk of fewer than 1 sector, nor of more than MaxSectors.
func TestNewWrong(t *testing.T) {
	for _, n := range []int{0, -1, 4097, math.MinInt, math.MaxInt, 1 << 32} {
		if d, e := disk.New(n); d != nil || e != api.ErrArg {
			t.Errorf("New(%d): a disk: %t, error %d", n, d != nil, e)
		}
	}
}

// TestRead is P3.1: what was written there last, each sector its own, whether it waits or lasts.
func TestRead(t *testing.T) {
	d := newDisk(t, 3)
	for i := range 3 {
		wantErr(t, "Write", d.Write(i, full(byte(i+1))), api.OK)
	}
	wantErr(t, "Write again", d.Write(1, front(64, 9, 8)), api.OK)
	for range 2 {
		wantRead(t, "first", d, 0, full(1))
		wantRead(t, "second", d, 1, front(64, 9, 8))
		wantRead(t, "third", d, 2, full(3))
		wantErr(t, "Flush", d.Flush(), api.OK)
	}
	wantErr(t, "Write behind Flush", d.Write(0, full(0)), api.OK)
	wantRead(t, "noughts", d, 0, full(0))
	wantRead(t, "the other one", d, 2, full(3))
}

// TestReadWrong is P3.1: of no sector there is nothing, with power and without.
func TestReadWrong(t *testing.T) {
	for _, n := range []int{1, 5} {
		d := newDisk(t, n)
		d.Write(0, full(1))
		for _, i := range wrongPlaces(n) {
			wantNone(t, "with power", d, i, api.ErrArg)
		}
		kill(t, d)
		for _, i := range wrongPlaces(n) {
			wantNone(t, "without power", d, i, api.ErrArg)
		}
	}
}

// TestReadWithoutPower is P3.1: what was written last is read then, too, whether it waits or lasts.
func TestReadWithoutPower(t *testing.T) {
	d := newDisk(t, 3)
	d.Write(0, full(1))
	d.Write(1, full(2))
	d.Flush()
	d.Write(1, full(3))
	kill(t, d)
	wantRead(t, "lasts", d, 0, full(1))
	wantRead(t, "waits", d, 1, full(3))
	wantRead(t, "not written", d, 2, full(0))
	if d.Size() != 3 {
		t.Errorf("size %d", d.Size())
	}
}

// TestWrite is P3.2: each write waits, in order, also of the same sector.
func TestWrite(t *testing.T) {
	d := newDisk(t, 4)
	for i, at := range []int{3, 0, 3, 3, 1} {
		wantErr(t, "Write", d.Write(at, full(byte(i+1))), api.OK)
	}
	wantWaits(t, "five writes", d, 3, 0, 3, 3, 1)
	wantRead(t, "the last of three", d, 3, full(4))
	wantWaits(t, "asked again", d, 3, 0, 3, 3, 1)
}

// TestWriteWrong is P3.2: no sector, or not 128 bytes: nothing is changed, with power or without.
func TestWriteWrong(t *testing.T) {
	d := newDisk(t, 4)
	d.Write(2, full(7))
	wrong := func(name string) {
		for _, i := range wrongPlaces(4) {
			wantErr(t, name+", no sector", d.Write(i, full(1)), api.ErrArg)
			wantErr(t, name+", no sector, no bytes", d.Write(i, nil), api.ErrArg)
		}
		for _, n := range []int{0, 1, 127, 129, 256} {
			wantErr(t, name+", other bytes", d.Write(2, make([]byte, n)), api.ErrArg)
		}
		wantErr(t, name+", nil", d.Write(2, nil), api.ErrArg)
		wantRead(t, name, d, 2, full(7))
		wantWaits(t, name, d, 2)
	}
	wrong("with power")
	kill(t, d)
	wrong("without power")
}

// TestFlush is P3.2: what waits lasts in order, and nothing waits.
func TestFlush(t *testing.T) {
	d := newDisk(t, 2)
	wantErr(t, "Flush of nothing", d.Flush(), api.OK)
	d.Write(1, full(1))
	d.Write(0, full(2))
	d.Write(1, full(3))
	wantErr(t, "Flush", d.Flush(), api.OK)
	wantWaits(t, "flushed", d)
	d.Crash(nil, 0)
	wantRead(t, "flushed once", d, 0, full(2))
	wantRead(t, "flushed twice", d, 1, full(3))
	d.Write(0, full(4))
	wantWaits(t, "behind", d, 0)
	wantErr(t, "Flush again", d.Flush(), api.OK)
	wantErr(t, "Flush of nothing again", d.Flush(), api.OK)
	d.Crash(nil, 0)
	wantRead(t, "flushed behind", d, 0, full(4))
	wantRead(t, "flushed ahead", d, 1, full(3))
}

// TestHandedIn is R3 of P3.2: the bytes of a write are neither changed nor kept.
func TestHandedIn(t *testing.T) {
	d := newDisk(t, 2)
	b := front(50, 1, 2)
	d.Write(0, b)
	b[0], b[127] = 9, 9
	wantRead(t, "waits", d, 0, front(50, 1, 2))
	d.Flush()
	b[0], b[127] = 1, 8
	wantRead(t, "lasts", d, 0, front(50, 1, 2))
	d.Write(1, b)
	d.Crash([]int{1}, 0)
	if b[0] != 1 || b[1] != 1 || b[127] != 8 {
		t.Errorf("what was handed in was changed: %x", b)
	}
	big := append(full(3), 4, 5)
	d.Write(1, big[:128])
	wantRead(t, "bytes behind", d, 1, full(3))
	if big[128] != 4 || big[129] != 5 {
		t.Error("bytes behind what was handed in were changed")
	}
	keep := []int{1, 0, -1}
	d.Crash(keep, 3)
	if !slices.Equal(keep, []int{1, 0, -1}) {
		t.Errorf("what was handed in was changed: %v", keep)
	}
}

// TestAnswers is R3 of P3.1 and P3.2: what is done with an answer changes neither the disk nor another answer.
func TestAnswers(t *testing.T) {
	d := newDisk(t, 2)
	d.Write(0, full(1))
	d.Write(1, full(2))
	a, _ := d.Read(0)
	b, _ := d.Read(0)
	l, m := d.Waits(), d.Waits()
	for i := range a {
		a[i] = 9
	}
	_ = append(a[:1], 7)
	l[0], l[1] = 5, 6
	if !bytes.Equal(b, full(1)) || !slices.Equal(m, []int{0, 1}) {
		t.Errorf("two answers share: %x, %v", b, m)
	}
	wantRead(t, "behind a change", d, 0, full(1))
	wantRead(t, "behind a change", d, 1, full(2))
	wantWaits(t, "behind a change", d, 0, 1)
	d.Flush()
	d.Crash(nil, 0)
	wantRead(t, "behind a crash", d, 0, full(1))
	d.Write(0, full(3))
	if !bytes.Equal(b, full(1)) || !slices.Equal(m, []int{0, 1}) {
		t.Errorf("an answer was changed by the disk: %x, %v", b, m)
	}
}

// TestTwoDisks is R4: what is done to a disk changes no other one.
func TestTwoDisks(t *testing.T) {
	d, other := newDisk(t, 2), newDisk(t, 2)
	d.Write(0, full(1))
	d.Flush()
	d.Write(1, full(2))
	kill(t, d)
	for i := range 2 {
		wantRead(t, "the other one", other, i, full(0))
	}
	wantWaits(t, "the other one", other)
	wantErr(t, "the other one", other.Flush(), api.OK)
}

// TestNil is R1: a disk that is nil, or that New did not make; whatever is handed in.
func TestNil(t *testing.T) {
	var none *disk.Disk
	for name, d := range map[string]*disk.Disk{"nil": none, "zero": new(disk.Disk)} {
		for range 2 {
			for _, i := range []int{0, -1, 1, math.MinInt, math.MaxInt} {
				wantNone(t, name, d, i, api.ErrNil)
				wantErr(t, name+" Write", d.Write(i, full(1)), api.ErrNil)
				wantErr(t, name+" Write, wrong", d.Write(i, nil), api.ErrNil)
				wantErr(t, name+" Fuse", d.Fuse(i), api.ErrNil)
			}
			wantErr(t, name+" Flush", d.Flush(), api.ErrNil)
			if d.Size() != 0 || len(d.Waits()) != 0 || d.Live() {
				t.Errorf("%s: size %d, waits %v, live %t", name, d.Size(), d.Waits(), d.Live())
			}
			d.Crash(nil, 0)
			d.Crash([]int{1, 0, 2}, 5)
		}
	}
}
