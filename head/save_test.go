package head_test

import (
	"bytes"
	"math"
	"slices"
	"testing"

	"tenancy/api"
	"tenancy/disk"
	"tenancy/head"
)

// save fails the test unless a head is saved.
func save(t testing.TB, d *disk.Disk, at int, epoch uint64, h head.Head) {
	t.Helper()
	if e := head.Save(d, at, epoch, h); e != api.OK {
		t.Fatalf("Save of %+v at %d, epoch %d: error %d", h, at, epoch, e)
	}
}

// TestSectorByHand is P5.1: a head's sector, byte by byte.
func TestSectorByHand(t *testing.T) {
	d := newDisk(t, 2)
	save(t, d, 0, 0x010203, head.Head{Gen: 0x0405060709, Tail: 0x0A0B0C0D0E, Floor: 0x0F1011})
	front := []byte{1, 2, 3, 4, 5, 6, 7, 9, 3, 8, 0x0A, 0x0B, 0x0C, 0x0D, 0x0E, 0x0F, 0x10, 0x11}
	b, _ := d.Read(1)
	if !bytes.Equal(b[:18], front) || !bytes.Equal(b[18:116], make([]byte, 98)) || !bytes.Equal(b[120:], front[:8]) {
		t.Errorf("%x", b)
	}
}

// TestSave is P5.1 and P5.2: of each head the sector at its place, which lasts, and no other one.
func TestSave(t *testing.T) {
	for _, h := range edges() {
		for _, epoch := range []uint64{0, 1, 0x00FF00, maxEpoch} {
			d := filled(t, 4)
			l := slices.Collect(slices.Chunk(all(t, d), 128))
			save(t, d, 1, epoch, h)
			if h.Gen%2 == 0 {
				l[1] = sectorOf(epoch, h)
			} else {
				l[2] = sectorOf(epoch, h)
			}
			wantSectors(t, "saved", d, l...)
			d.Crash(nil, 0)
			wantSectors(t, "saved, and a crash", d, l...)
			wantLoad(t, "saved, and a crash", d, 1, h)
		}
	}
}

// TestSavePlaces is P5.2: at every place at which the disk has two sectors.
func TestSavePlaces(t *testing.T) {
	for _, n := range []int{2, 3, 5, 4096} {
		for _, at := range []int{0, (n - 2) / 2, n - 2} {
			for gen := range uint64(2) {
				d := newDisk(t, n)
				h := head.Head{Gen: gen, Tail: 5, Floor: 6}
				save(t, d, at, 7, h)
				want := make([]byte, 128*n)
				copy(want[128*(at+int(gen)):], sectorOf(7, h))
				wantSectors(t, "saved", d, want)
			}
		}
	}
}

// TestSaveByTurns is P5.2: a Save leaves the sector of the one ahead of it as it was.
func TestSaveByTurns(t *testing.T) {
	d := newDisk(t, 2)
	l := [][]byte{make([]byte, 128), make([]byte, 128)}
	for gen := range uint64(9) {
		h := head.Head{Gen: gen, Tail: 100 * gen, Floor: gen / 2}
		save(t, d, 0, 3, h)
		l[gen%2] = sectorOf(3, h)
		wantSectors(t, "by turns", d, l...)
		wantLoad(t, "by turns", d, 0, h)
	}
}

// wantNotSaved fails the test unless Save answers ErrArg, and makes no step of the disk.
func wantNotSaved(t *testing.T, name string, d *disk.Disk, at int, epoch uint64, h head.Head) {
	t.Helper()
	before, waits := all(t, d), d.Waits()
	wantErr(t, name, head.Save(d, at, epoch, h), api.ErrArg)
	wantSectors(t, name, d, before)
	if !slices.Equal(d.Waits(), waits) {
		t.Errorf("%s: %v wait", name, d.Waits())
	}
}

// TestSaveWrong is P5.2: ErrArg of each part that is wrong, and nothing is changed; so too where there is no power, as this error is named first.
func TestSaveWrong(t *testing.T) {
	good := head.Head{Gen: 2, Tail: 3, Floor: 4}
	for _, dead := range []bool{false, true} {
		d := filled(t, 4)
		put(t, d, 3, make([]byte, 128))
		wantErr(t, "Fuse", d.Fuse(0), api.OK)
		if dead {
			wantErr(t, "Flush", d.Flush(), api.ErrDead)
		}
		for _, at := range wrongPlaces(4) {
			wantNotSaved(t, "place", d, at, 1, good)
			wantNotSaved(t, "place of an odd one", d, at, 1, head.Head{Gen: 1})
		}
		for _, x := range []uint64{1 << 40, 1<<40 + 1, 1 << 63, math.MaxUint64} {
			wantNotSaved(t, "Gen", d, 1, 1, head.Head{Gen: x, Tail: 3, Floor: 4})
			wantNotSaved(t, "Tail", d, 1, 1, head.Head{Gen: 2, Tail: x, Floor: 4})
		}
		for _, x := range []uint64{1 << 24, 1<<24 + 1, 1 << 40, 1 << 63, math.MaxUint64} {
			wantNotSaved(t, "Floor", d, 1, 1, head.Head{Gen: 2, Tail: 3, Floor: x})
			wantNotSaved(t, "epoch", d, 1, x, good)
		}
		if d.Live() == dead {
			t.Errorf("live: %t", d.Live())
		}
	}
}

// TestSaveNoDisk is P5.2 and R1: ErrNil of no disk, whatever the place, the epoch and the head, also such as are wrong.
func TestSaveNoDisk(t *testing.T) {
	heads := []head.Head{{}, {Gen: 1}, {Gen: maxCount, Tail: maxCount, Floor: maxEpoch}, {Gen: 1 << 40}, {Tail: 1 << 40}, {Floor: 1 << 24}}
	for _, d := range []*disk.Disk{nil, {}} {
		for _, at := range append(wrongPlaces(0), 0, 1, 7) {
			for _, epoch := range []uint64{0, 1, maxEpoch, 1 << 24, math.MaxUint64} {
				for _, h := range heads {
					wantErr(t, "no disk", head.Save(d, at, epoch, h), api.ErrNil)
				}
			}
		}
	}
}

// TestSaveSmallDisk is P5.2: ErrArg of the smallest disk, which has no two sectors, but is one.
func TestSaveSmallDisk(t *testing.T) {
	d := filled(t, 1)
	for _, at := range append(wrongPlaces(1), 0, 1, 7) {
		wantNotSaved(t, "small", d, at, 1, head.Head{})
		wantNotSaved(t, "small, an odd one", d, at, 1, head.Head{Gen: 1})
	}
}

// TestSaveWithoutPower is P5.2: the disk's error, of the Write and of the Flush, and no step behind the one that erred.
func TestSaveWithoutPower(t *testing.T) {
	h := head.Head{Gen: 5, Tail: 6, Floor: 7}
	none, written := make([]byte, 128), sectorOf(1, h)
	l := []struct {
		e     api.Errno
		odd   []byte
		waits []int
	}{
		{api.ErrDead, none, nil},
		{api.ErrDead, written, []int{1}},
		{api.OK, written, nil},
		{api.OK, written, nil},
	}
	for fuse, want := range l {
		d := newDisk(t, 2)
		wantErr(t, "Fuse", d.Fuse(fuse), api.OK)
		wantErr(t, "Save", head.Save(d, 0, 1, h), want.e)
		wantSectors(t, "Save", d, none, want.odd)
		if !slices.Equal(d.Waits(), want.waits) {
			t.Errorf("a fuse of %d: %v wait", fuse, d.Waits())
		}
		if d.Live() != (want.e == api.OK) {
			t.Errorf("a fuse of %d: live: %t", fuse, d.Live())
		}
		wantErr(t, "a Save behind", head.Save(d, 0, 1, h), api.ErrDead)
	}
}

// TestSaveHasAllLast is P5.2: the disk is flushed, so what waited ahead lasts as well.
func TestSaveHasAllLast(t *testing.T) {
	d := newDisk(t, 4)
	b := bytes.Repeat([]byte{9}, 128)
	put(t, d, 3, b)
	save(t, d, 0, 1, head.Head{Gen: 1})
	d.Crash(nil, 0)
	wantSectors(t, "a crash", d, make([]byte, 128), sectorOf(1, head.Head{Gen: 1}), make([]byte, 128), b)
}
