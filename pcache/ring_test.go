package pcache_test

import (
	"fmt"
	"testing"

	"tenancy/api"
	"tenancy/head"
	"tenancy/slot"
)

// TestCheckpoint is P15.2: where the ring has no room for a change all is brought home ahead, once; nothing is lost by that, and each ring of 20 or more is enough.
func TestCheckpoint(t *testing.T) {
	for n := 20; n < 34; n++ {
		w := newWorld(t, n, 9)
		home := 0
		for i := range 60 {
			before := w.free
			switch i % 5 {
			case 4:
				w.retag(two, uint64(i), api.OK)
			default:
				w.put(slot.Slot{Used: true, Block: at(i % 8), Dirty: i%5 == 3, Data: fmt.Sprint(i)}, api.OK)
			}
			if w.free > before {
				home++
				if len(w.ring) != 1 {
					t.Fatalf("a ring of %d: behind a Checkpoint it has %d changes, want 1", n, len(w.ring))
				}
			}
		}
		if home < 3 {
			t.Errorf("a ring of %d: %d Checkpoints", n, home)
		}
		w.reopen()
	}
}

// TestCheckpointLasts is P15.2: what was changed ahead of a Checkpoint lasts; the change for which it went ahead does not, without a Sync.
func TestCheckpointLasts(t *testing.T) {
	w := newWorld(t, 20, 4)
	for i := 0; ; i++ {
		before := w.c.All()
		free := w.free
		w.put(clean(at(i%4), fmt.Sprint(i)), api.OK)
		if w.free < free {
			continue
		}
		w.d.Crash(nil, 0)
		w.reopen()
		wantSlots(t, "behind a Checkpoint", w.c.All(), before)
		break
	}
}

// counted answers a cache that keeps two blocks in four places, whose next change's first piece has this count, and whose newest Head has this Gen.
func counted(t testing.TB, count, gen uint64) *world {
	t.Helper()
	d := newDisk(t, 2+20+5)
	layHomes(t, d, 20, numberHome(3), slotHome(clean(at(0), "a")), slotHome(dirty(at(1), "b")))
	h, _, e := head.Load(d, 0)
	wantErr(t, "head.Load", e, api.OK)
	h.Gen, h.Tail = gen, count
	wantErr(t, "head.Save", head.Save(d, 0, h.Floor+1, h), api.OK)
	return worldOf(t, d, 20, 4)
}

// wantRefused fails the test unless each change answers this error, and changes nothing.
func (w *world) wantRefused(want api.Errno) {
	w.t.Helper()
	for _, o := range []op{
		{call: "Put", x: clean(at(0), "new")},
		{call: "Put", x: dirty(at(0), "new")},
		{call: "Put", x: clean(at(1), "new")},
		{call: "Put", x: clean(at(2), "new")},
		{call: "Drop", x: clean(at(0), "")},
		{call: "Drop", x: clean(at(1), "")},
		{call: "DropFile", x: clean(at(0), "")},
		{call: "Retag", x: clean(at(0), ""), n: 99},
		{call: "SetNumber", n: 99},
	} {
		for range 2 {
			wantErr(w.t, fmt.Sprintf("%+v", o), o.onCache(w.c).err, want)
			w.wantTold("behind an error")
			all, _ := logged(w.t, w.d, w.n)
			wantHomes(w.t, "behind an error", all, w.homes)
		}
	}
}

// wantGot fails the test unless Get answers what the model has of these blocks; what the ring has is not asked.
func (w *world) wantGot(blocks ...api.Block) {
	w.t.Helper()
	for _, b := range blocks {
		o := op{call: "Get", x: slot.Slot{Block: b}}
		if got, want := o.onCache(w.c), o.onModel(w.m); !got.is(want) || !got.ok {
			w.t.Fatalf("%+v: %v, want %v", o, got, want)
		}
	}
}

// TestCountFull is P15.2: where a count would be above MaxCount a change is ErrFull behind a Checkpoint, too, and changes nothing; what is kept may be asked for, and Sync is OK.
func TestCountFull(t *testing.T) {
	// Of a change of one Slot there are two pieces.
	for _, left := range []uint64{1, 3, 5} {
		w := counted(t, maxCount+1-left, 9)
		for i := range left / 2 {
			w.put(clean(at(0), fmt.Sprint("new", i)), api.OK)
		}
		w.wantRefused(api.ErrFull)
		w.wantGot(at(0), at(1))
		wantErr(t, "Put of what is none", w.c.Put(slot.Slot{}), api.ErrArg)
		wantErr(t, "Drop of what is not kept", w.c.Drop(at(7)), api.ErrNone)
		wantErr(t, "DropFile of what is not kept", w.c.DropFile(api.File{Ino: 9}), api.OK)
		wantErr(t, "Retag of what is not kept", w.c.Retag(api.File{Ino: 9}, 1), api.OK)
		wantErr(t, "Sync", w.c.Sync(), api.OK)
		w.d.Crash(nil, 0)
		w.reopen()
		w.wantRefused(api.ErrFull)
	}
}

// TestCountFullOfMany is P15.2: a change of many Slots may be ErrFull where one of a single Slot is not.
func TestCountFullOfMany(t *testing.T) {
	for _, pinned := range []bool{false, true} {
		w := counted(t, maxCount+1-11, 9)
		w.put(clean(at(2), "c"), api.OK)
		w.put(clean(at(3), "d"), api.OK)
		w.put(clean(at(1), "b"), api.OK)
		w.put(slot.Slot{Used: true, Block: at(0), Dirty: pinned, Data: "new"}, api.OK)
		for _, o := range []op{{call: "DropFile", x: clean(at(0), "")}, {call: "Retag", x: clean(at(0), ""), n: 5}} {
			wantErr(t, o.call, o.onCache(w.c).err, api.ErrFull)
			w.wantTold("behind " + o.call)
		}
		all, _ := logged(t, w.d, w.n)
		wantHomes(t, "behind ErrFull", all, w.homes)
		// There is room for one Slot more. Places are used, and pinned, as they were.
		o := op{call: "Put", x: clean(at(4), "new")}
		wantErr(t, "Put", o.onCache(w.c).err, o.onModel(w.m).err)
		w.wantTold("behind a Put")
	}
}

// TestGenFull is P15.2: a Checkpoint's error is the answer, and stays; nothing is changed.
func TestGenFull(t *testing.T) {
	w := counted(t, 7, maxCount)
	for w.free > 1 {
		w.put(clean(at(0), fmt.Sprint(w.free)), api.OK)
	}
	w.wantRefused(api.ErrFull)
	wantErr(t, "Sync", w.c.Sync(), api.ErrFull)
	w.wantGot(at(0), at(1))
	w.d.Crash(nil, 0)
	w.reopen()
	w.wantRefused(api.ErrFull)
}

// TestDeadLog is R2: a Put that is wrong, or finds all pinned, and a Drop of what is not kept tell that ahead of an error of the disk, which stays for all else.
func TestDeadLog(t *testing.T) {
	for fuse := range 2 {
		w := full(t, "ddd")
		wantErr(t, "Fuse", w.d.Fuse(fuse), api.OK)
		for range 2 {
			wantErr(t, "Put in place", w.c.Put(clean(at(1), "new")), api.ErrDead)
			wantErr(t, "Put of what is none", w.c.Put(slot.Slot{}), api.ErrArg)
			wantErr(t, "Put of one more", w.c.Put(clean(at(3), "new")), api.ErrFull)
			wantErr(t, "Drop of what is not kept", w.c.Drop(at(3)), api.ErrNone)
			wantErr(t, "Retag above MaxCount", w.c.Retag(two, maxCount+1), api.ErrArg)
			wantErr(t, "SetNumber above MaxCount", w.c.SetNumber(maxCount+1), api.ErrArg)
			wantErr(t, "SetNumber", w.c.SetNumber(9), api.ErrDead)
			wantErr(t, "Drop", w.c.Drop(at(0)), api.ErrDead)
			wantErr(t, "DropFile", w.c.DropFile(two), api.ErrDead)
			wantErr(t, "Sync", w.c.Sync(), api.ErrDead)
			w.wantTold("without power")
			// The error stays, also with the power on again.
			w.d.Crash([]int{1, 1, 1, 1, 1, 1, 1, 1}, 0)
		}
	}
}
