package pcache_test

import (
	"fmt"
	"math/rand"
	"slices"
	"strings"
	"testing"

	"tenancy/api"
	"tenancy/slot"
)

// subsets answers each way in which n writes may be kept.
func subsets(n int) [][]int {
	l := [][]int{}
	for x := range 1 << n {
		keep := make([]int, n)
		for i := range keep {
			keep[i] = x >> i & 1
		}
		l = append(l, keep)
	}
	return l
}

// someKeep answers what is kept of n writes: all, none, all but one, a front of them, or some.
func someKeep(r *rand.Rand, n int) []int {
	keep := make([]int, n)
	kind, front := r.Intn(6), r.Intn(n+1)
	for i := range keep {
		keep[i] = []int{1, 1, r.Intn(2), r.Intn(2), 0, 0}[kind]
		if kind == 5 && i < front {
			keep[i] = 1
		}
	}
	if kind == 1 && n > 0 {
		keep[r.Intn(n)] = 0
	}
	return keep
}

// script answers calls of each kind that changes something, and Syncs among them. All are done, in three places.
func script() []op {
	f := slot.Slot{Block: api.Block{File: two}}
	return []op{
		{call: "Put", x: clean(at(0), "a")},
		{call: "Put", x: dirty(at(1), "b")},
		{call: "SetNumber", n: 1},
		{call: "Put", x: clean(at(2), "c")},
		{call: "Put", x: clean(at(3), strings.Repeat("d", 64))},
		{call: "Retag", x: f, n: 7},
		{call: "Sync"},
		{call: "Put", x: clean(at(1), "written back")},
		{call: "Drop", x: clean(at(3), "")},
		{call: "Put", x: dirty(of(3, 1, 0), "e")},
		{call: "DropFile", x: f},
		{call: "Put", x: dirty(at(5), "f")},
		{call: "Put", x: clean(at(6), "g")},
		{call: "Put", x: clean(at(7), "h")},
		{call: "SetNumber", n: maxCount},
		{call: "Retag", x: f, n: maxCount},
	}
}

// until does calls up to one that errs, which must be by the power; it answers how many were done.
func (w *world) until(l []op) int {
	w.t.Helper()
	for i, o := range l {
		if !w.try(o) {
			return i
		}
	}
	return len(l)
}

// try does a call in which the power may go off: then it answers false; nothing that is told is changed, but what waits may be there behind a crash.
func (w *world) try(o op) bool {
	w.t.Helper()
	before := w.m.clone()
	want := o.onModel(w.m)
	got := o.onCache(w.c)
	name := fmt.Sprintf("%+v", o)
	after := w.m.spell(w.homes)
	if got.err == api.ErrDead {
		w.m = before
		w.wantTold(name + ", without power")
		// The change itself may be there, though it was not answered.
		w.may = append(w.may, after)
		return false
	}
	if !got.is(want) {
		w.t.Fatalf("%s: %v, want %v", name, got, want)
	}
	w.expect(after)
	if got.err == api.OK && (o.call == "SetNumber" || o.call == "Sync") {
		w.may = w.may[len(w.may)-1:]
	}
	w.wantTold(name)
	return true
}

// crash has the power go off, and opens the cache anew, twice; it answers how many of the changes that were not sure were lost.
func (w *world) crash(keep []int, torn int) int {
	w.t.Helper()
	may := w.may
	w.d.Crash(keep, torn)
	w.reopen()
	now := w.homes
	w.reopen()
	wantHomes(w.t, "opened twice", w.homes, now)
	for i := range may {
		if slices.Equal(now, may[len(may)-1-i]) {
			return i
		}
	}
	w.t.Fatalf("behind a crash: %+v, number %d: as behind none of %d changes", w.c.All(), w.c.Number(), len(may))
	return 0
}

// TestPower is P15.2 and P15.5: of each step of a script, wherever the power goes off, and whatever lasts or is torn: what there is is as behind the first ones of all changes, at least those up to the last Sync; and it goes on.
func TestPower(t *testing.T) {
	l := script()
	lost := map[int]int{}
	for fuse := 0; ; fuse++ {
		w := newWorld(t, 20, 3)
		wantErr(t, "Fuse", w.d.Fuse(fuse), api.OK)
		done := w.until(l)
		if done == len(l) {
			break
		}
		for _, keep := range someSubsets(len(w.d.Waits())) {
			for _, torn := range []int{0, 1, 9, 60, 120, 127} {
				w := newWorld(t, 20, 3)
				wantErr(t, "Fuse", w.d.Fuse(fuse), api.OK)
				w.until(l)
				lost[w.crash(keep, torn)]++
				w.put(clean(of(9, 9, 0), "new"), api.OK)
				w.set(99, api.OK)
				if n := w.crash(nil, 0); n != 0 {
					t.Fatalf("%d changes are lost behind SetNumber", n)
				}
			}
		}
	}
	for n := range 6 {
		if lost[n] == 0 {
			t.Errorf("lost %v: each number up to 5 may be", lost)
		}
	}
}

// someSubsets answers ways in which n writes may be kept: each, if they are few; else each front, and all but one.
func someSubsets(n int) [][]int {
	if n <= 4 {
		return subsets(n)
	}
	var l [][]int
	for i := range n + 1 {
		front := make([]int, n)
		for k := range i {
			front[k] = 1
		}
		but := slices.Repeat([]int{1}, n)
		if i < n {
			but[i] = 0
		}
		l = append(l, front, but)
	}
	return l
}

// TestPowerOverAndOver is P15.5: the power goes off in life behind life, anywhere.
func TestPowerOverAndOver(t *testing.T) {
	lost := map[int]int{}
	for round := range 60 {
		r := &chance{Rand: rand.New(rand.NewSource(int64(1550 + round)))}
		r.files, r.dirty = 1+r.Intn(4), someOf(r.Rand, 0, 2, 5, 9)
		w := newWorld(t, 20+r.Intn(2)*r.Intn(30), someOf(r.Rand, 1, 2, 3, 5, 8, 20, 64))
		for range 15 {
			wantErr(t, "Fuse", w.d.Fuse(r.Intn(60)), api.OK)
			for w.try(r.some()) {
			}
			lost[min(w.crash(someKeep(r.Rand, len(w.d.Waits())), r.Intn(2)*r.Intn(128)), 5)]++
		}
	}
	for n := range 6 {
		if lost[n] < 20 {
			t.Errorf("lost %v: each number up to 5, or more, may be", lost)
		}
	}
}

// TestDead is P15.2: behind an error of the disk nothing is changed, and nothing is done any more, also with the power on again; what is told is as behind all that was answered OK.
func TestDead(t *testing.T) {
	l := script()
	r := rand.New(rand.NewSource(152))
	for fuse := 0; ; fuse++ {
		w := newWorld(t, 20, 3)
		wantErr(t, "Fuse", w.d.Fuse(fuse), api.OK)
		i := w.until(l)
		if i == len(l) {
			break
		}
		for _, on := range []bool{false, true} {
			if on {
				w.d.Crash(someKeep(r, len(w.d.Waits())), r.Intn(160))
			}
			before, waits := sectors(t, w.d), w.d.Waits()
			for _, o := range w.changes() {
				if a := o.onCache(w.c); !a.is(answer{err: api.ErrDead}) {
					t.Fatalf("a fuse of %d: %+v behind an error: %v", fuse, o, a)
				}
				w.wantTold("behind an error")
			}
			if !slices.Equal(sectors(t, w.d), before) || !slices.Equal(w.d.Waits(), waits) {
				t.Fatalf("a fuse of %d: something was written behind an error", fuse)
			}
			for _, x := range w.c.All() {
				w.wantGot(x.Block)
			}
		}
	}
}

// changes answers calls each of which would change something of a cache that has room.
func (w *world) changes() []op {
	l := []op{{call: "Sync"}, {call: "SetNumber", n: 55}, {call: "Sync"}}
	for _, x := range w.c.All() {
		l = append(l, op{call: "Put", x: dirty(x.Block, "another one")}, op{call: "Put", x: clean(x.Block, "another one")}, op{call: "Drop", x: x}, op{call: "DropFile", x: x})
		if !x.Dirty {
			l = append(l, op{call: "Retag", x: x, n: 56})
		}
	}
	if len(w.c.Dirty()) < w.slots {
		l = append(l, op{call: "Put", x: clean(of(9, 9, 0), "new")}, op{call: "Put", x: dirty(of(9, 9, 0), "new")})
	}
	return l
}

// TestBounds is P15.5: a block has one Slot at most, no more are kept than there are Slots, and what is dirty is never given up for another one.
func TestBounds(t *testing.T) {
	for _, slots := range []int{1, 2, 3, 7, 20, 64} {
		r := &chance{Rand: rand.New(rand.NewSource(int64(slots))), files: 9, dirty: 2}
		c := open(t, newDisk(t, 2+20+1+slots), 20, slots)
		for range 1500 {
			before := c.Dirty()
			o := r.some()
			o.onCache(c)
			l := c.All()
			blocks := map[api.Block]bool{}
			for _, x := range l {
				blocks[x.Block] = true
			}
			if len(l) > slots || len(blocks) != len(l) {
				t.Fatalf("of %d Slots %d are kept, of %d blocks", slots, len(l), len(blocks))
			}
			for _, x := range before {
				if _, ok := c.Get(x.Block); !ok && o.call == "Put" {
					t.Fatalf("%+v gave up %+v", o, x)
				}
			}
			if len(c.Dirty()) == slots {
				// Written back, so that it goes on.
				for _, x := range l {
					c.Put(slot.Slot{Used: true, Block: x.Block, Data: x.Data})
				}
			}
		}
	}
}

// FuzzCalls is P15.1 to P15.5 and R1: any calls on a cache of three Slots, and the power that goes off, against a model.
func FuzzCalls(f *testing.F) {
	f.Add([]byte("\x00\x01\x02\x03\x04\x05\x06\x07\x08\x09"), uint16(9))
	f.Add([]byte(strings.Repeat("\x10\x21\x32\x43\x54\x65", 20)), uint16(60))
	f.Add([]byte(strings.Repeat("\x11\x12\x23\x33\x07\x47\x57", 20)), uint16(33))
	f.Fuzz(func(t *testing.T, b []byte, fuse uint16) {
		w := newWorld(t, 20, 3)
		wantErr(t, "Fuse", w.d.Fuse(int(fuse)), api.OK)
		for i, c := range b[:min(len(b), 300)] {
			x := slot.Slot{Used: true, Block: at(int(c>>4) % 8), Version: uint64(i), Dirty: c&8 != 0, Data: fmt.Sprint(i)}
			o := op{call: []string{"Get", "Put", "Put", "Put", "Drop", "DropFile", "Retag", "SetNumber"}[c&7], x: x, n: uint64(1 + i)}
			if c == 0xFF {
				o = op{call: "Sync"}
			}
			if !w.try(o) {
				w.crash([]int{1, int(c) & 1, int(c) & 2, int(c) & 4}, int(c)%128)
			}
		}
	})
}
