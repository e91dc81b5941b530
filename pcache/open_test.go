package pcache_test

import (
	"fmt"
	"math"
	"math/rand"
	"slices"
	"strings"
	"testing"

	"tenancy/api"
	"tenancy/disk"
	"tenancy/lap"
	"tenancy/pcache"
	"tenancy/slot"
)

// wantNoCache fails the test unless a disk is refused so, and nothing is written on it.
func wantNoCache(t testing.TB, name string, d *disk.Disk, n, slots int, want api.Errno) {
	t.Helper()
	before, waits := sectors(t, d), d.Waits()
	c, e := pcache.Open(d, n, slots)
	if c != nil || e != want {
		t.Fatalf("%s: a ring of %d, %d slots: a cache: %t, error %d, want none and error %d", name, n, slots, c != nil, e, want)
	}
	if !slices.Equal(sectors(t, d), before) || !slices.Equal(d.Waits(), waits) {
		t.Fatalf("%s: something was written", name)
	}
}

// TestOpenNoDisk is P15.1: ErrNil of no disk, whatever the ring, and how many Slots.
func TestOpenNoDisk(t *testing.T) {
	for _, d := range []*disk.Disk{nil, {}} {
		for _, n := range []int{20, 21, 0, 19, -1, math.MaxInt, math.MinInt} {
			for _, slots := range []int{1, 2, 64, 65, 0, -1, math.MaxInt, math.MinInt} {
				if c, e := pcache.Open(d, n, slots); c != nil || e != api.ErrNil {
					t.Errorf("a ring of %d, %d slots: a cache: %t, error %d", n, slots, c != nil, e)
				}
			}
		}
	}
}

// TestOpenSizes is P15.1: a ring of 20 or more, 1 to 64 Slots, and a home for each and for the number.
func TestOpenSizes(t *testing.T) {
	for _, n := range []int{20, 21, 50, 4000} {
		for _, slots := range []int{1, 2, 3, 63, 64} {
			for _, more := range []int{0, 1, 20} {
				w := worldOf(t, newDisk(t, 2+n+1+slots+more), n, slots)
				for i := range slots {
					w.c.Put(dirty(of(1+i/8, 1, i%8), "x"))
				}
				if e := w.c.Put(dirty(of(40, 1, 0), "x")); e != api.ErrFull || len(w.c.All()) != slots {
					t.Fatalf("of %d Slots %d are kept, error %d", slots, len(w.c.All()), e)
				}
			}
			wantNoCache(t, "a home less", newDisk(t, 2+n+slots), n, slots, api.ErrArg)
			wantNoCache(t, "no slots' homes", newDisk(t, 2+n+1), n, slots, api.ErrArg)
			wantNoCache(t, "no homes", newDisk(t, 2+n), n, slots, api.ErrArg)
			wantNoCache(t, "no ring", newDisk(t, n), n, slots, api.ErrArg)
		}
	}
	for _, size := range []int{1, 2, 23, 24, 25, 100, 4096} {
		d := newDisk(t, size)
		for _, n := range []int{19, 18, 2, 1, 0, -1, -20, math.MinInt, math.MinInt + 1, math.MinInt + 2, size, size + 20, 1<<32 + 20, math.MaxInt, math.MaxInt - 1} {
			wantNoCache(t, "ring", d, n, 1, api.ErrArg)
			wantNoCache(t, "ring", d, n, 64, api.ErrArg)
		}
		for _, slots := range []int{0, -1, -20, 65, 66, 100, 1<<32 + 1, math.MaxInt, math.MaxInt - 1, math.MinInt, math.MinInt + 1} {
			wantNoCache(t, "slots", d, 20, slots, api.ErrArg)
			wantNoCache(t, "slots", d, 19, slots, api.ErrArg)
		}
	}
	// The least disk, and the greatest ring.
	open(t, newDisk(t, 24), 20, 1)
	open(t, newDisk(t, 4096), 4096-2-1-64, 64)
	wantNoCache(t, "a ring that is too great", newDisk(t, 4096), 4096-2-64, 64, api.ErrArg)
}

// TestOpenEpoch is P15.1: redo.Open's error, behind ErrArg, and ahead of ErrForm.
func TestOpenEpoch(t *testing.T) {
	b, e := lap.Seal(lap.Piece{Epoch: lap.MaxEpoch, Count: 3})
	wantErr(t, "lap.Seal", e, api.OK)
	for _, at := range []int{0, 1, 2, 21} {
		for home := range 4 {
			d := newDisk(t, 2+20+4)
			if home < 3 {
				wantErr(t, "disk.Write", d.Write(22+home, []byte(strings.Repeat("x", 128))), api.OK)
			}
			wantErr(t, "disk.Write", d.Write(at, b), api.OK)
			wantNoCache(t, "an epoch", d, 20, 3, api.ErrFull)
			wantNoCache(t, "an epoch", d, 20, 1, api.ErrFull)
			wantNoCache(t, "an epoch, and a wrong ring", d, 19, 3, api.ErrArg)
			wantNoCache(t, "an epoch, and too few homes", d, 21, 3, api.ErrArg)
			wantNoCache(t, "an epoch, and too many slots", d, 20, 4, api.ErrArg)
			wantNoCache(t, "an epoch, and no slots", d, 20, 0, api.ErrArg)
		}
	}
}

// TestOpenNumber is P15.1: home 0 has a number of 0 to MaxCount in its last eight bytes, the highest first; ErrForm of all else.
func TestOpenNumber(t *testing.T) {
	for _, x := range []uint64{0, 1, 0x0102030405, 0xFF00000000, 0xFF, maxCount - 1, maxCount} {
		d := newDisk(t, 2+20+2)
		layHomes(t, d, 20, numberHome(x))
		if n := open(t, d, 20, 1).Number(); n != x {
			t.Errorf("Number: %d, want %d", n, x)
		}
		// Each other byte alone makes it none.
		for i := range 123 {
			for _, c := range []byte{1, 0x80, 0xFF} {
				s := []byte(numberHome(x))
				s[i] = c
				d := newDisk(t, 2+20+2)
				layHomes(t, d, 20, string(s))
				wantNoCache(t, fmt.Sprintf("byte %d", i), d, 20, 1, api.ErrForm)
			}
		}
	}
	for i := range 5 {
		for _, c := range []byte{1, 2, 0x80, 0xFF} {
			s := []byte(numberHome(0))
			s[123+i] = c
			d := newDisk(t, 2+20+2)
			layHomes(t, d, 20, string(s))
			if n := open(t, d, 20, 1).Number(); n != uint64(c)<<(32-8*i) {
				t.Errorf("byte %d is %d: Number %d", 123+i, c, n)
			}
		}
	}
	for _, x := range []uint64{maxCount + 1, maxCount + 2, 1 << 41, 1 << 48, 1 << 63, math.MaxUint64} {
		d := newDisk(t, 2+20+2)
		layHomes(t, d, 20, numberHome(x))
		wantNoCache(t, "a number that is too great", d, 20, 1, api.ErrForm)
	}
}

// wrongSlots answers sectors that are no Slot's.
func wrongSlots() []string {
	right := slot.Slot{Used: true, Block: at(3), Version: 7, Dirty: true, Data: "right"}
	behind := []byte(slotHome(right))
	behind[127] = 1
	unused := []byte(slotHome(right))
	unused[0] &= 0x7F
	nought := right
	nought.Block.File.Ino = 0
	great := right
	great.Block.File.Ino = 41
	long := right
	long.Data = strings.Repeat("x", 65)
	return []string{
		string(behind), string(unused), slotHome(nought), slotHome(great), slotHome(long),
		strings.Repeat("\xff", 128), strings.Repeat("\x00", 127) + "\x01", "\x80" + strings.Repeat("\x00", 127),
	}
}

// TestOpenForm is P15.1: ErrForm, if a home no Slot; homes behind the last Slot may be anything.
func TestOpenForm(t *testing.T) {
	const slots = 4
	for _, wrong := range wrongSlots() {
		for place := range slots + 2 {
			l := []string{numberHome(5), slotHome(clean(at(0), "a")), slotHome(slot.Slot{}), slotHome(dirty(at(1), "b")), slotHome(clean(at(2), "c")), slotHome(clean(at(0), "a")), slotHome(dirty(at(1), "b"))}
			l[1+place] = wrong
			d := newDisk(t, 2+20+len(l))
			layHomes(t, d, 20, l...)
			if place < slots {
				wantNoCache(t, "a home is no Slot", d, 20, slots, api.ErrForm)
				l[0] = strings.Repeat("\xff", 128)
				layHomes(t, d, 20, l...)
				wantNoCache(t, "no home is right", d, 20, slots, api.ErrForm)
				continue
			}
			w := worldOf(t, d, 20, slots)
			w.wantKept(0, 1, 2)
			w.put(clean(at(3), "d"), api.OK)
			w.set(6, api.OK)
			w.put(clean(at(4), "e"), api.OK)
		}
	}
}

// TestOpenTwoOfABlock is P15.1: ErrForm, if two Slots keep one block, whatever else they have; not, if there is any difference between the blocks.
func TestOpenTwoOfABlock(t *testing.T) {
	a := slot.Slot{Used: true, Block: of(2, 1, 3), Version: 7, Data: "a"}
	same := []slot.Slot{a, {Used: true, Block: a.Block}, dirty(a.Block, "a"), clean(a.Block, "b"), {Used: true, Block: a.Block, Version: 8, Data: "a"}}
	for i := range 6 {
		for k := range i {
			for _, b := range same {
				for _, l := range [][]slot.Slot{{a, b}, {b, a}} {
					d := newDisk(t, 2+20+7)
					all := slices.Repeat([]string{slotHome(slot.Slot{})}, 7)
					all[1+k], all[1+i] = slotHome(l[0]), slotHome(l[1])
					layHomes(t, d, 20, all...)
					wantNoCache(t, "a block twice", d, 20, 6, api.ErrForm)
					// One of them is not this cache's.
					open(t, d, 20, i)
				}
			}
		}
	}
	var all []string
	for _, ino := range []int{1, 2, 3} {
		for _, gen := range []int{0, 1, 1 << 30} {
			for _, k := range []int{0, 3, 7} {
				all = append(all, slotHome(slot.Slot{Used: true, Block: of(ino, gen, k), Version: 7, Data: "a"}))
			}
		}
	}
	d := newDisk(t, 2+20+1+len(all))
	layHomes(t, d, 20, append([]string{numberHome(0)}, all...)...)
	if l := open(t, d, 20, len(all)).All(); len(l) != len(all) {
		t.Errorf("%d are kept, want %d", len(l), len(all))
	}
}

// TestOpenTurns is P15.1: what is not free is used, in order, and marked; what is dirty is pinned.
func TestOpenTurns(t *testing.T) {
	l := []slot.Slot{dirty(at(0), "a"), clean(at(1), "b"), {}, dirty(at(3), "d"), clean(at(4), "e"), {}}
	all := []string{numberHome(5)}
	for _, x := range l {
		all = append(all, slotHome(x))
	}
	d := newDisk(t, 2+20+len(all))
	layHomes(t, d, 20, all...)
	w := worldOf(t, d, 20, len(l))
	w.put(clean(at(7), "free"), api.OK)
	w.wantKept(0, 1, 3, 4, 7)
	w.put(clean(at(5), "free"), api.OK)
	w.wantKept(0, 1, 3, 4, 5, 7)
	// All are marked, and the hand is at the first place.
	w.put(clean(at(6), "new"), api.OK)
	w.wantKept(0, 3, 4, 5, 6, 7)
	w.get(at(4), true)
	w.put(clean(at(2), "new"), api.OK)
	w.wantKept(0, 2, 3, 4, 5, 6)
	for i := range 4 {
		w.put(dirty(of(9, 9, i), "new"), api.OK)
	}
	w.put(dirty(of(9, 9, 4), "new"), api.ErrFull)
	w.reopen()
	w.put(dirty(of(9, 9, 4), "new"), api.ErrFull)
}

// TestOpenOther is P15.1: a cache that is opened with fewer Slots than it had has the first ones of them; the others are there when it is opened with them again, and may be of a block that is kept by then.
func TestOpenOther(t *testing.T) {
	w := full(t, "cdcdcd")
	w.sync()
	few := worldOf(t, w.d, 20, 3)
	few.wantKept(0, 1, 2)
	few.get(at(4), false)
	few.put(clean(at(6), "new"), api.OK)
	few.sync()
	few.wantKept(1, 2, 6)
	w.reopen()
	w.wantKept(1, 2, 3, 4, 5, 6)
	few.reopen()
	few.put(clean(at(4), "twice"), api.OK)
	few.sync()
	wantNoCache(t, "a block twice", w.d, 20, 6, api.ErrForm)
	wantNoCache(t, "a block twice", w.d, 20, 5, api.ErrForm)
	open(t, w.d, 20, 4).Drop(at(4))
	w.reopen()
	w.wantKept(1, 2, 3, 4, 5)
}

// TestOpenDead is P15.1: a cache is opened without power, too, as nothing is written.
func TestOpenDead(t *testing.T) {
	w := full(t, "cdc")
	w.set(9, api.OK)
	want := w.c.All()
	for range 3 {
		wantErr(t, "Fuse", w.d.Fuse(0), api.OK)
		wantErr(t, "Flush", w.d.Flush(), api.ErrDead)
		w.reopen()
		wantSlots(t, "All", w.c.All(), want)
		w.d.Crash(nil, 0)
	}
}

// TestNoCache is R1: of a cache that is nil, or that Open did not make, ErrNil, zeros, none, whatever is asked.
func TestNoCache(t *testing.T) {
	r := &chance{Rand: rand.New(rand.NewSource(1)), files: 3, dirty: 5}
	failed, _ := pcache.Open(nil, 20, 1)
	for _, c := range []*pcache.Cache{nil, {}, new(pcache.Cache), failed} {
		for range 300 {
			o := r.some()
			want := answer{err: api.ErrNil}
			if o.call == "Get" {
				want.err = api.OK
			}
			if a := o.onCache(c); !a.is(want) {
				t.Fatalf("%+v: %v, want %v", o, a, want)
			}
		}
		if len(c.All()) != 0 || len(c.Dirty()) != 0 || len(c.Of(two)) != 0 || len(c.Of(api.File{})) != 0 || c.Number() != 0 {
			t.Errorf("no cache has something")
		}
	}
}

// FuzzOpen is P15.1 and R1: any homes: a cache, if they are right, else ErrForm.
func FuzzOpen(f *testing.F) {
	for _, s := range append(wrongSlots(), slotHome(clean(at(0), "a")), slotHome(dirty(at(1), strings.Repeat("\xff", 64)))) {
		f.Add(numberHome(3) + slotHome(clean(at(0), "b")) + s)
		f.Add(numberHome(maxCount+1) + s)
		f.Add(s + s)
	}
	f.Fuzz(func(t *testing.T, s string) {
		const slots = 3
		var l []string
		for range 1 + slots {
			s += strings.Repeat("\x00", max(0, 128-len(s)))
			l, s = append(l, s[:128]), s[128:]
		}
		d := newDisk(t, 2+20+len(l))
		layHomes(t, d, 20, l...)
		if !areRight(l) {
			wantNoCache(t, "any homes", d, 20, slots, api.ErrForm)
			return
		}
		w := worldOf(t, d, 20, slots)
		w.set(7, api.OK)
		w.dropFile(two)
	})
}

// areRight tells whether homes are a cache's.
func areRight(l []string) bool {
	if strings.Trim(l[0][:123], "\x00") != "" {
		return false
	}
	var kept []api.Block
	for _, s := range l[1:] {
		if s == slotHome(slot.Slot{}) {
			continue
		}
		// Data that are more than may be are not told whole: then the sector is another one.
		x := slotOf(s)
		if !isKept(x) || slotHome(x) != s || slices.Contains(kept, x.Block) {
			return false
		}
		kept = append(kept, x.Block)
	}
	return true
}
