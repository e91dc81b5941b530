package pcache_test

import (
	"math"
	"strings"
	"testing"

	"tenancy/api"
	"tenancy/slot"
)

var two = api.File{Ino: 2, Gen: 1}

// at answers a block of file 2.1.
func at(i int) api.Block { return api.Block{File: two, At: i} }

// of answers a block of a file.
func of(ino, gen, at int) api.Block { return api.Block{File: api.File{Ino: ino, Gen: gen}, At: at} }

// clean and dirty answer a Slot that keeps a block.
func clean(b api.Block, data string) slot.Slot { return slot.Slot{Used: true, Block: b, Data: data} }

func dirty(b api.Block, data string) slot.Slot {
	return slot.Slot{Used: true, Block: b, Dirty: true, Data: data}
}

// full answers a cache that keeps the first blocks of file 2.1, each in the place of its number, those with a letter d dirty.
func full(t testing.TB, letters string) *world {
	t.Helper()
	w := newWorld(t, 20, len(letters))
	for i, c := range letters {
		x := clean(at(i), string(c))
		x.Dirty = c == 'd'
		w.put(x, api.OK)
	}
	return w
}

// TestTwoSlots is P15.3 of the chapter's example.
func TestTwoSlots(t *testing.T) {
	for _, c := range []struct {
		dirty []bool
		kept  []int
		last  api.Errno
	}{
		{[]bool{false, false, false}, []int{1, 2}, api.OK},
		{[]bool{false, false, true}, []int{1, 2}, api.OK},
		{[]bool{false, true, false}, []int{1, 2}, api.OK},
		{[]bool{true, false, false}, []int{0, 2}, api.OK},
		{[]bool{true, false, true}, []int{0, 2}, api.OK},
		{[]bool{true, true, false}, []int{0, 1}, api.ErrFull},
		{[]bool{true, true, true}, []int{0, 1}, api.ErrFull},
	} {
		w := newWorld(t, 20, 2)
		for i, is := range c.dirty {
			x := slot.Slot{Used: true, Block: at(i), Dirty: is, Data: "abc"[i : i+1]}
			w.put(x, []api.Errno{api.OK, api.OK, c.last}[i])
		}
		w.wantKept(c.kept...)
	}
}

// TestPutInPlace is P15.3: a block that is kept has its Slot be another one, of which nothing of the elder one is left; no other place is given up.
func TestPutInPlace(t *testing.T) {
	w := full(t, "ccc")
	for _, x := range []slot.Slot{
		{Used: true, Block: at(1)},
		{Used: true, Block: at(1), Version: maxCount, Dirty: true, Data: strings.Repeat("\xff", 64)},
		{Used: true, Block: at(1), Dirty: true},
		{Used: true, Block: at(1), Version: 1, Data: "\x00"},
	} {
		w.put(x, api.OK)
		w.wantKept(0, 1, 2)
		if got, ok := w.c.Get(at(1)); got != x || !ok {
			t.Fatalf("kept is %+v, %t, want %+v", got, ok, x)
		}
	}
}

// TestPutAgain is P15.3: what is put as it was is kept as it was.
func TestPutAgain(t *testing.T) {
	for _, letters := range []string{"c", "d", "cd"} {
		w := full(t, letters)
		l := w.c.All()
		for _, x := range l {
			wantErr(t, "Put", w.c.Put(x), api.OK)
			wantErr(t, "Put", w.c.Put(x), api.OK)
			wantErr(t, "Retag", w.c.Retag(two, x.Version), api.OK)
		}
		wantSlots(t, "All", w.c.All(), l)
		wantErr(t, "Sync", w.c.Sync(), api.OK)
		w.d.Crash(nil, 0)
		w.reopen()
		wantSlots(t, "All", w.c.All(), l)
	}
}

// TestPutFull is P15.3: where all places are pinned ErrFull is answered, and nothing happens; what is kept already may be put all the same, and one that is dirty no more, or dropped, makes room.
func TestPutFull(t *testing.T) {
	w := full(t, "ddd")
	w.put(clean(at(3), "new"), api.ErrFull)
	w.put(dirty(at(3), "new"), api.ErrFull)
	w.wantKept(0, 1, 2)
	w.put(dirty(at(1), "more"), api.OK)
	w.put(dirty(at(3), "new"), api.ErrFull)
	w.put(clean(at(1), "written back"), api.OK)
	w.put(dirty(at(3), "new"), api.OK)
	w.wantKept(0, 2, 3)
	w.put(clean(at(4), "new"), api.ErrFull)
	w.drop(at(2), api.OK)
	w.put(dirty(at(4), "new"), api.OK)
	w.wantKept(0, 3, 4)
	w.put(clean(of(3, 1, 0), "new"), api.ErrFull)
	w.retag(two, 9, api.OK)
	w.put(clean(of(3, 1, 0), "new"), api.ErrFull)
	w.reopen()
	w.put(clean(of(3, 1, 0), "new"), api.ErrFull)
	w.dropFile(two)
	for i := range 3 {
		w.put(dirty(of(3, 1, i), "new"), api.OK)
	}
	w.put(dirty(of(3, 1, 3), "new"), api.ErrFull)
}

// TestPutWrong is P15.3: ErrArg of what is no Slot, and of a free one, ahead of ErrFull; nothing happens.
func TestPutWrong(t *testing.T) {
	right := slot.Slot{Used: true, Block: at(0), Version: 7, Data: "a"}
	wrong := []slot.Slot{{}, {Block: at(0)}, {Data: "a"}, {Dirty: true}, {Used: true}}
	for _, b := range []api.Block{
		of(0, 1, 0), of(41, 1, 0), of(-1, 1, 0), of(1<<32+2, 1, 0), of(math.MaxInt, 1, 0), of(math.MinInt, 1, 0),
		of(2, -1, 0), of(2, 1<<31, 0), of(2, 1<<32+1, 0), of(2, math.MaxInt, 0), of(2, math.MinInt, 0),
		of(2, 1, -1), of(2, 1, 8), of(2, 1, 1<<32), of(2, 1, math.MaxInt), of(2, 1, math.MinInt),
	} {
		x := right
		x.Block = b
		wrong = append(wrong, x)
	}
	for _, v := range []uint64{maxCount + 1, 1 << 63, math.MaxUint64} {
		x := right
		x.Version = v
		wrong = append(wrong, x)
	}
	for _, n := range []int{65, 66, 128, 1 << 16, 1<<16 + 1} {
		x := right
		x.Data = strings.Repeat("a", n)
		wrong = append(wrong, x)
	}
	free := right
	free.Used = false
	for _, x := range append(wrong, free) {
		for _, letters := range []string{"c", "d", "cc", "dd"} {
			w := full(t, letters)
			w.put(x, api.ErrArg)
		}
		newWorld(t, 20, 1).put(x, api.ErrArg)
	}
}

// TestPutEdges is P15.3: Slots whose parts are as small, and as great, as may be are kept.
func TestPutEdges(t *testing.T) {
	w := newWorld(t, 20, 64)
	for _, ino := range []int{1, 40} {
		for _, gen := range []int{0, math.MaxInt32} {
			for _, k := range []int{0, 7} {
				for _, v := range []uint64{0, maxCount} {
					for _, n := range []int{0, 64} {
						for _, is := range []bool{false, true} {
							x := slot.Slot{Used: true, Block: of(ino, gen, k), Version: v, Dirty: is, Data: strings.Repeat("\xff", n)}
							w.put(x, api.OK)
							if got, ok := w.c.Get(x.Block); got != x || !ok {
								t.Fatalf("kept is %+v, %t, want %+v", got, ok, x)
							}
						}
					}
				}
			}
		}
	}
	w.reopen()
}

// TestTurns is P15.3: what was put, or asked for by Get, is not given up ahead of what was not; nothing else marks.
func TestTurns(t *testing.T) {
	for name, c := range map[string]struct {
		do   func(w *world)
		kept []int // behind one Put more
	}{
		"nothing":      {func(w *world) {}, []int{0, 2, 3, 4, 5}},
		"Get":          {func(w *world) { w.get(at(1), true) }, []int{0, 1, 3, 4, 5}},
		"Get of three": {func(w *world) { w.get(at(1), true); w.get(at(2), true); w.get(at(3), true) }, []int{0, 1, 2, 3, 5}},
		"Get of all":   {func(w *world) { w.get(at(1), true); w.get(at(2), true); w.get(at(3), true); w.get(at(4), true) }, []int{0, 2, 3, 4, 5}},
		"Put":          {func(w *world) { w.put(clean(at(1), "new"), api.OK) }, []int{0, 1, 3, 4, 5}},
		"Put, dirty":   {func(w *world) { w.put(dirty(at(1), "new"), api.OK) }, []int{0, 1, 3, 4, 5}},
		"Put, dirty, then not": {func(w *world) {
			w.put(dirty(at(1), "new"), api.OK)
			w.put(clean(at(1), "newer"), api.OK)
		}, []int{0, 1, 3, 4, 5}},
		"Get of none": {func(w *world) { w.get(at(6), false); w.get(of(2, 2, 1), false); w.get(api.Block{}, false) }, []int{0, 2, 3, 4, 5}},
		"Retag":       {func(w *world) { w.retag(two, 9, api.OK) }, []int{0, 2, 3, 4, 5}},
		"lists": {func(w *world) {
			w.c.All()
			w.c.Of(two)
			w.c.Dirty()
		}, []int{0, 2, 3, 4, 5}},
		"a number": {func(w *world) { w.set(9, api.OK); w.sync() }, []int{0, 2, 3, 4, 5}},
		"wrong ones": {func(w *world) {
			w.put(slot.Slot{Used: true, Block: at(1), Version: maxCount + 1}, api.ErrArg)
			w.retag(two, maxCount+1, api.ErrArg)
			w.drop(at(7), api.ErrNone)
			w.dropFile(api.File{Ino: 2, Gen: 2})
		}, []int{0, 2, 3, 4, 5}},
		"Drop": {func(w *world) { w.drop(at(3), api.OK) }, []int{0, 1, 2, 4, 5}},
	} {
		t.Run(name, func(t *testing.T) {
			// Of places 0 to 4 the first one was given up, and is block 5's, which is marked; the hand is at place 1, all others have no mark. Then block 0 is put at place 1.
			w := full(t, "ccccc")
			w.put(clean(at(5), "new"), api.OK)
			w.put(clean(at(0), "back"), api.OK)
			w.wantKept(0, 2, 3, 4, 5)
			w = full(t, "ccccc")
			w.put(clean(at(5), "new"), api.OK)
			w.wantKept(1, 2, 3, 4, 5)
			c.do(w)
			w.put(clean(at(0), "back"), api.OK)
			w.wantKept(c.kept...)
		})
	}
}

// TestFreeFirst is P15.3: the least free place is taken ahead of any that is used.
func TestFreeFirst(t *testing.T) {
	w := full(t, "ccccc")
	w.drop(at(3), api.OK)
	w.drop(at(1), api.OK)
	w.put(clean(of(3, 1, 0), "new"), api.OK)
	w.put(clean(of(3, 1, 1), "new"), api.OK)
	for i, want := range []string{at1(0), of1(3, 0), at1(2), of1(3, 1), at1(4)} {
		if got := w.homes[1+i][:6]; got != want {
			t.Errorf("place %d: %x, want %x", i, got, want)
		}
	}
}

// at1 and of1 answer the first bytes of the sector of a clean Slot of these blocks, of Gen 1, told by hand.
func at1(i int) string { return of1(2, i) }

func of1(ino, i int) string {
	return string([]byte{byte(0x80 | ino), 0, 0, 0, byte(2 | i>>2), byte(i << 6)})
}

// TestDrop is P15.3: ErrNone of what is not kept; else its Slot is free, a dirty one, too.
func TestDrop(t *testing.T) {
	w := newWorld(t, 20, 4)
	for _, b := range []api.Block{{}, at(0), of(-1, -1, -1), of(math.MaxInt, 0, 0)} {
		w.drop(b, api.ErrNone)
	}
	w = full(t, "cdcd")
	for _, b := range []api.Block{{}, at(4), of(2, 2, 0), of(2, 0, 0), of(3, 1, 0), of(1, 1, 0), at(-1), at(1 << 32)} {
		w.drop(b, api.ErrNone)
	}
	w.drop(at(1), api.OK)
	w.drop(at(1), api.ErrNone)
	w.get(at(1), false)
	w.get(api.Block{}, false)
	w.drop(api.Block{}, api.ErrNone)
	w.wantKept(0, 2, 3)
	w.drop(at(0), api.OK)
	w.drop(at(3), api.OK)
	w.reopen()
	w.wantKept(2)
	w.drop(at(2), api.OK)
	w.drop(at(2), api.ErrNone)
	w.wantKept()
	for i := range 4 {
		w.put(dirty(at(i), "new"), api.OK)
	}
	w.put(dirty(at(4), "new"), api.ErrFull)
}

// mixed answers a cache that keeps all blocks of a file, clean and dirty ones, and some of others that are nearly it.
func mixed(t testing.TB) *world {
	t.Helper()
	w := newWorld(t, 20, 20)
	for i := range 8 {
		w.put(slot.Slot{Used: true, Block: of(3, 2, 7-i), Version: uint64(i), Dirty: i%3 == 0, Data: "mixed"}, api.OK)
		if i%2 == 0 {
			w.put(slot.Slot{Used: true, Block: of(3, 1, i), Version: 5, Dirty: i == 2, Data: "elder"}, api.OK)
		}
	}
	w.put(clean(of(3, 3, 0), "younger"), api.OK)
	w.put(clean(of(2, 2, 0), "less"), api.OK)
	w.put(dirty(of(4, 2, 0), "more"), api.OK)
	w.put(clean(of(1, math.MaxInt32, 3), "least"), api.OK)
	w.put(clean(of(40, 0, 3), "greatest"), api.OK)
	return w
}

// TestDropFile is P15.3: all Slots of a file are free, dirty ones, too, at once; those of others stay.
func TestDropFile(t *testing.T) {
	w := mixed(t)
	for _, f := range []api.File{{}, {Ino: 3}, {Ino: 3, Gen: 4}, {Ino: 5, Gen: 2}, {Ino: -1, Gen: -1}, {Ino: 3 + 1<<32, Gen: 2}} {
		w.dropFile(f)
		if n := len(w.c.All()); n != 17 {
			t.Fatalf("behind DropFile of %v %d are kept, want 17", f, n)
		}
	}
	w.dropFile(api.File{Ino: 3, Gen: 2})
	if n := len(w.c.All()); n != 9 {
		t.Fatalf("%d are kept, want 9", n)
	}
	w.dropFile(api.File{Ino: 3, Gen: 2})
	w.reopen()
	// Eleven of twenty places are free.
	for i := range 11 {
		w.put(dirty(of(7, 7+i/8, i%8), "new"), api.OK)
	}
	if n := len(w.c.All()); n != 20 {
		t.Fatalf("%d are kept, want 20", n)
	}
}

// TestRetag is P15.3: all Slots of a file that are not dirty have the version, at once; ErrArg of one above MaxCount, whatever is kept.
func TestRetag(t *testing.T) {
	w := mixed(t)
	f := api.File{Ino: 3, Gen: 2}
	for _, v := range []uint64{77, 0, 1, maxCount, maxCount - 1, 3} {
		w.retag(f, v, api.OK)
		for _, x := range w.c.All() {
			if x.Block.File == f && !x.Dirty && x.Version != v || x.Dirty && x.Version == v && v > 7 {
				t.Fatalf("of version %d: %+v", v, x)
			}
		}
	}
	for _, v := range []uint64{maxCount + 1, 1 << 41, 1 << 63, math.MaxUint64} {
		w.retag(f, v, api.ErrArg)
		w.retag(api.File{}, v, api.ErrArg)
		newWorld(t, 20, 1).retag(f, v, api.ErrArg)
	}
	for _, f := range []api.File{{}, {Ino: 9, Gen: 9}, {Ino: 3, Gen: 4}, {Ino: -1, Gen: math.MinInt}} {
		w.retag(f, 99, api.OK)
	}
	// One that is dirty has its own, also when it is dirty no more.
	w = full(t, "dd")
	w.retag(two, 9, api.OK)
	wantSlots(t, "All", w.c.All(), []slot.Slot{dirty(at(0), "d"), dirty(at(1), "d")})
}

// TestLists is P15.4: by Ino, then by Gen, then by At, wherever they are kept.
func TestLists(t *testing.T) {
	w := newWorld(t, 20, 9)
	blocks := []api.Block{of(1, 9, 7), of(2, 0, 7), of(2, 1, 0), of(2, 1, 1), of(2, 1, 7), of(2, 10, 0), of(10, 0, 0), of(40, 0, 0), of(40, math.MaxInt32, 7)}
	var want []slot.Slot
	for i, b := range blocks {
		want = append(want, slot.Slot{Used: true, Block: b, Version: uint64(i), Dirty: i%2 == 1, Data: "x"})
	}
	for _, i := range []int{5, 2, 8, 0, 6, 4, 7, 1, 3} {
		w.put(want[i], api.OK)
	}
	wantSlots(t, "All", w.c.All(), want)
	wantSlots(t, "Dirty", w.c.Dirty(), []slot.Slot{want[1], want[3], want[5], want[7]})
	wantSlots(t, "Of", w.c.Of(two), want[2:5])
	wantSlots(t, "Of", w.c.Of(api.File{Ino: 2, Gen: 10}), want[5:6])
	wantSlots(t, "Of no file", w.c.Of(api.File{}), nil)
	wantSlots(t, "Of another one", w.c.Of(api.File{Ino: 2, Gen: 2}), nil)
	wantSlots(t, "a new one", newWorld(t, 20, 9).c.All(), nil)
}

// TestNewMemory is R3: what is answered nobody else has.
func TestNewMemory(t *testing.T) {
	w := full(t, "cdc")
	for range 2 {
		for _, l := range [][]slot.Slot{w.c.All(), w.c.Dirty(), w.c.Of(two)} {
			for i := range l {
				l[i] = slot.Slot{Used: true, Block: at(9), Data: "no"}
			}
			_ = append(l[:0], slot.Slot{}, slot.Slot{})
		}
		w.wantTold("behind a caller's changes")
		for i := range 3 {
			w.get(at(i), true)
		}
	}
}

// TestNumber is P15.4: 0 at first; ErrArg above MaxCount; else it is so, and lasts, with all changes ahead of it.
func TestNumber(t *testing.T) {
	w := newWorld(t, 20, 3)
	if n := w.c.Number(); n != 0 {
		t.Fatalf("Number of a new one: %d", n)
	}
	for i, x := range []uint64{1, 255, 256, 1<<32 - 1, 1 << 32, 0x0102030405, maxCount - 1, maxCount, 0, 7} {
		w.put(clean(at(i%3), spelt(x, 41)), api.OK)
		w.set(x, api.OK)
		if n := w.c.Number(); n != x {
			t.Fatalf("Number: %d, want %d", n, x)
		}
		for _, wrong := range []uint64{maxCount + 1, maxCount + 2, 1 << 41, 1 << 63, math.MaxUint64} {
			w.set(wrong, api.ErrArg)
		}
		kept := w.c.All()
		w.d.Crash(nil, 0)
		w.reopen()
		if n := w.c.Number(); n != x {
			t.Fatalf("Number behind a crash: %d, want %d", n, x)
		}
		wantSlots(t, "behind a crash", w.c.All(), kept)
		if i%4 == 3 {
			w.d.Crash(nil, 0)
		}
	}
	wantErr(t, "the same again", w.c.SetNumber(7), api.OK)
	if n := w.c.Number(); n != 7 {
		t.Fatalf("Number: %d, want 7", n)
	}
}

// TestSync is P15.2 and P15.4: what was changed lasts with the next Sync, and not ahead of it.
func TestSync(t *testing.T) {
	changes := []func(w *world){
		func(w *world) { w.put(clean(at(6), "new"), api.OK) },
		func(w *world) { w.put(dirty(at(1), "new"), api.OK) },
		func(w *world) { w.drop(at(0), api.OK) },
		func(w *world) { w.dropFile(two) },
		func(w *world) { w.retag(two, 9, api.OK) },
	}
	for i, change := range changes {
		for _, last := range []bool{false, true} {
			w := full(t, "cdcc")
			w.sync()
			want := w.c.All()
			change(w)
			if last {
				want = w.c.All()
				w.sync()
			}
			w.d.Crash(nil, 0)
			w.reopen()
			if got := w.c.All(); len(got) != len(want) {
				t.Fatalf("change %d, lasting: %t: %v, want %v", i, last, got, want)
			}
			wantSlots(t, "behind a crash", w.c.All(), want)
		}
	}
}
