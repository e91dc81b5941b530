package fstore_test

import (
	"math"
	"slices"
	"strings"
	"testing"

	"tenancy/api"
	"tenancy/disk"
	"tenancy/fstore"
	"tenancy/lap"
)

// wantNoStore fails the test unless a disk is refused so, and nothing is written on it.
func wantNoStore(t testing.TB, name string, d *disk.Disk, n int, want api.Errno) {
	t.Helper()
	before, waits := sectors(t, d), d.Waits()
	s, e := fstore.Open(d, n)
	if s != nil || e != want {
		t.Fatalf("%s: a store: %t, error %d, want none and error %d", name, s != nil, e, want)
	}
	if !slices.Equal(sectors(t, d), before) || !slices.Equal(d.Waits(), waits) {
		t.Fatalf("%s: something was written", name)
	}
}

// TestOpenNoDisk is P11.2: ErrNil of no disk, whatever the ring.
func TestOpenNoDisk(t *testing.T) {
	for _, d := range []*disk.Disk{nil, {}} {
		for _, n := range []int{20, 21, 0, 19, -1, math.MaxInt, math.MinInt} {
			if s, e := fstore.Open(d, n); s != nil || e != api.ErrNil {
				t.Errorf("a ring of %d: a store: %t, error %d", n, s != nil, e)
			}
		}
	}
}

// TestOpenSizes is P11.2: a ring of 20 or more, and 46 to 1024 homes.
func TestOpenSizes(t *testing.T) {
	for _, n := range []int{20, 21, 50, 3000} {
		for _, homes := range []int{46, 47, 64, 1023, 1024} {
			d := newDisk(t, 2+n+homes)
			w := &world{t: t, d: d, n: n, m: newModel(homes)}
			w.reopen()
			w.create(root, "a", api.KFile)
			w.wantAll()
		}
		for _, homes := range []int{45, 44, 42, 1, 0, 1025, 1026, 1094} {
			wantNoStore(t, "homes", newDisk(t, 2+n+homes), n, api.ErrArg)
		}
	}
	for _, size := range []int{1, 2, 20, 22, 67, 68, 69, 100, 1046, 1047, 4096} {
		d := newDisk(t, size)
		for _, n := range []int{19, 18, 2, 1, 0, -1, -20, math.MinInt, math.MinInt + 1, size, size + 20, 1<<32 + 20, math.MaxInt, math.MaxInt - 1} {
			wantNoStore(t, "ring", d, n, api.ErrArg)
		}
	}
	// The least disk, and the greatest.
	open(t, newDisk(t, 68), 20)
	wantNoStore(t, "a sector less", newDisk(t, 67), 20, api.ErrArg)
	open(t, newDisk(t, 4096), 4096-2-1024)
	wantNoStore(t, "a home more", newDisk(t, 4096), 4096-2-1025, api.ErrArg)
}

// TestOpenEpoch is P11.2: redo.Open's error, behind ErrArg, and ahead of ErrForm.
func TestOpenEpoch(t *testing.T) {
	b, e := lap.Seal(lap.Piece{Epoch: lap.MaxEpoch, Count: 3})
	wantErr(t, "lap.Seal", e, api.OK)
	for _, at := range []int{0, 1, 2, 21} {
		d := newDisk(t, 2+20+46)
		wantErr(t, "disk.Write", d.Write(at, b), api.OK)
		wantNoStore(t, "an epoch", d, 20, api.ErrFull)
		wantErr(t, "disk.Write", d.Write(22+1, []byte(strings.Repeat("x", 128))), api.OK)
		wantNoStore(t, "an epoch, and no Map", d, 20, api.ErrFull)
		wantNoStore(t, "an epoch, and a wrong ring", d, 19, api.ErrArg)
		wantNoStore(t, "an epoch, and too few homes", d, 22, api.ErrArg)
	}
	long := newDisk(t, 2+20+1025)
	wantErr(t, "disk.Write", long.Write(0, b), api.OK)
	wantNoStore(t, "an epoch, and too many homes", long, 20, api.ErrArg)
	// Behind the ring a home may be so.
	d := newDisk(t, 2+20+46)
	wantErr(t, "disk.Write", d.Write(22, b), api.OK)
	s := open(t, d, 20)
	if r, e := s.Record(); string(r) != string(b) || e != api.OK {
		t.Errorf("Record: %x, error %d", r, e)
	}
}

// wrongInodes answers bytes that are no Inode's.
func wrongInodes() []string {
	var l []string
	for _, x := range []node{{kind: 3, gen: 1}, {version: 1}, {at: [8]int{0, 50}}, {kind: 0, gen: 3, version: 9}} {
		l = append(l, inodeHome(x))
	}
	right := []byte(inodeHome(node{kind: 2, gen: 1, version: 1}))
	right[127] = 1
	return append(l, string(right), strings.Repeat("\xff", 128))
}

// TestOpenForm is P11.2: ErrForm, if homes 1 to 41 are no Map, no Inodes; also where there is no root yet.
func TestOpenForm(t *testing.T) {
	for _, fresh := range []bool{false, true} {
		was := func() (*disk.Disk, []string) {
			if fresh {
				d := newDisk(t, 2+20+60)
				return d, homes(t, d, 20)
			}
			w, _, _, _, _, _ := someWorld(t)
			d := newDisk(t, 2+20+60)
			layHomes(t, d, 20, w.m.homes)
			return d, w.m.homes
		}
		for at := 1; at <= 41; at++ {
			list := wrongInodes()
			if at == 1 {
				// A bit behind the last home.
				list = []string{strings.Repeat("\xff", 128), strings.Repeat("\x00", 127) + "\x01", strings.Repeat("\xff", 7) + "\xf8" + strings.Repeat("\x00", 120)}
			}
			for _, wrong := range list {
				d, all := was()
				all = slices.Clone(all)
				all[at] = wrong
				layHomes(t, d, 20, all)
				wantNoStore(t, "home "+string(rune('0'+at)), d, 20, api.ErrForm)
			}
		}
		// Any other home may be so.
		d, all := was()
		all = slices.Clone(all)
		all[0], all[59] = strings.Repeat("\xff", 128), strings.Repeat("\xff", 128)
		layHomes(t, d, 20, all)
		s := open(t, d, 20)
		if l, e := s.List(root); e != api.OK || fresh != (len(l) == 0) {
			t.Fatalf("the root has %v, error %d", l, e)
		}
	}
}

// TestOpenNew is P11.2: where the Inode of 1 is free the Map and the root are written, and last; the Record stays.
func TestOpenNew(t *testing.T) {
	for _, gen := range []int{0, 1, 5, math.MaxInt32} {
		d := newDisk(t, 2+20+60)
		all := homes(t, d, 20)
		all[0], all[2] = strings.Repeat("r", 128), inodeHome(node{gen: gen})
		layHomes(t, d, 20, all)
		m := newModel(60)
		m.homes[0] = all[0]
		w := &world{t: t, d: d, n: 20, m: m}
		w.s = open(t, d, 20)
		w.expect(puts(all, m.homes))
		w.ring, w.free = []string{recordOf(puts(all, m.homes))}, 17
		if l := d.Waits(); len(l) > 0 {
			t.Fatalf("%v wait", l)
		}
		w.wantAll()
		d.Crash(nil, 0)
		w.wantAll()
		w.reopen()
		w.create(root, "a", api.KFile)
	}
}

// TestOpenAgain is P11.2: where there is a root nothing is written; so it needs no power.
func TestOpenAgain(t *testing.T) {
	w, _, _, _, _, _ := someWorld(t)
	before := sectors(t, w.d)
	for range 3 {
		w.reopen()
	}
	wantErr(t, "Fuse", w.d.Fuse(0), api.OK)
	wantErr(t, "Flush", w.d.Flush(), api.ErrDead)
	w.reopen()
	if !slices.Equal(sectors(t, w.d), before) {
		t.Error("Open wrote something")
	}
	// What is there then is read, and no more.
	w.wantTold("without power", w.m)
	if _, e := w.s.Create(root, "new", api.KFile); e != api.ErrDead {
		t.Errorf("Create: error %d", e)
	}
	w.wantTold("without power", w.m)
}

// TestOpenPower is P11.2 and P11.7: wherever the power goes off as a root is made, there is none, or a whole one; the log's error is answered.
func TestOpenPower(t *testing.T) {
	made := map[bool]int{}
	for fuse := 0; ; fuse++ {
		d := newDisk(t, 2+20+46)
		wantErr(t, "Fuse", d.Fuse(fuse), api.OK)
		s, e := fstore.Open(d, 20)
		if e == api.OK {
			if s == nil || fuse != 4 {
				t.Fatalf("a store: %t, behind %d steps", s != nil, fuse)
			}
			break
		}
		if s != nil || e != api.ErrDead {
			t.Fatalf("a fuse of %d: a store: %t, error %d", fuse, s != nil, e)
		}
		for _, keep := range subsets(len(d.Waits())) {
			for _, torn := range []int{0, 1, 7, 9, 60, 125, 127} {
				d := newDisk(t, 2+20+46)
				wantErr(t, "Fuse", d.Fuse(fuse), api.OK)
				fstore.Open(d, 20)
				d.Crash(keep, torn)
				made[homes(t, d, 20)[2] == newModel(46).homes[2]]++
				w := &world{t: t, d: d, n: 20, m: newModel(46)}
				w.reopen()
				w.create(root, "a", api.KFile)
			}
		}
	}
	if made[true] == 0 || made[false] == 0 {
		t.Errorf("made %v: each of both may be", made)
	}
}
