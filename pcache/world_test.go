package pcache_test

import (
	"fmt"
	"slices"
	"testing"

	"tenancy/api"
	"tenancy/bits"
	"tenancy/disk"
	"tenancy/head"
	"tenancy/lap"
	"tenancy/pcache"
	"tenancy/redo"
	"tenancy/slot"
)

// wantErr fails the test unless a call told this.
func wantErr(t testing.TB, name string, got, want api.Errno) {
	t.Helper()
	if got != want {
		t.Fatalf("%s: error %d, want %d", name, got, want)
	}
}

// newDisk answers a disk of n sectors.
func newDisk(t testing.TB, n int) *disk.Disk {
	t.Helper()
	d, e := disk.New(n)
	wantErr(t, "disk.New", e, api.OK)
	return d
}

// open answers the cache of a disk with a ring of n.
func open(t testing.TB, d *disk.Disk, n, slots int) *pcache.Cache {
	t.Helper()
	c, e := pcache.Open(d, n, slots)
	if c == nil || e != api.OK {
		t.Fatalf("Open with a ring of %d, %d slots: a cache: %t, error %d", n, slots, c != nil, e)
	}
	return c
}

// sectors answers all that a disk reads.
func sectors(t testing.TB, d *disk.Disk) []string {
	t.Helper()
	l := make([]string, d.Size())
	for i := range l {
		b, e := d.Read(i)
		wantErr(t, "disk.Read", e, api.OK)
		l[i] = string(b)
	}
	return l
}

// logged answers what a disk's homes are, and how much of its ring is free, by a log of its own.
func logged(t testing.TB, d *disk.Disk, n int) ([]string, int) {
	t.Helper()
	l, e := redo.Open(d, n)
	wantErr(t, "redo.Open", e, api.OK)
	all := make([]string, l.Homes())
	for i := range all {
		b, e := l.Read(i)
		wantErr(t, "redo.Read", e, api.OK)
		all[i] = string(b)
	}
	return all, l.Free()
}

// layHomes has a disk's first homes be these, by a log of its own, and brings them home.
func layHomes(t testing.TB, d *disk.Disk, n int, want ...string) {
	t.Helper()
	l, e := redo.Open(d, n)
	wantErr(t, "redo.Open", e, api.OK)
	for i, s := range want {
		p := []api.Put{{At: i, Data: []byte(s)}}
		if l.Free() < redo.Need(p) {
			wantErr(t, "redo.Checkpoint", l.Checkpoint(), api.OK)
		}
		wantErr(t, "redo.Write", l.Write(p), api.OK)
	}
	wantErr(t, "redo.Checkpoint", l.Checkpoint(), api.OK)
}

// wantHomes fails the test unless homes are these.
func wantHomes(t testing.TB, name string, got, want []string) {
	t.Helper()
	if len(got) != len(want) {
		t.Fatalf("%s: %d homes, want %d", name, len(got), len(want))
	}
	for i := range got {
		if got[i] != want[i] {
			t.Fatalf("%s: home %d is %x, want %x", name, i, got[i], want[i])
		}
	}
}

// puts answers what is otherwise in homes, rising.
func puts(before, after []string) []api.Put {
	var l []api.Put
	for i := range after {
		if before[i] != after[i] {
			l = append(l, api.Put{At: i, Data: []byte(after[i])})
		}
	}
	return l
}

// putsOf answers the puts of a transaction's record, by rising homes.
func putsOf(record []byte) []api.Put {
	r := bits.Open(record)
	l := make([]api.Put, r.Get(8))
	for i := range l {
		l[i] = api.Put{At: int(r.Get(12)), Data: make([]byte, 128)}
		for k := range l[i].Data {
			l[i].Data[k] = byte(r.Get(8))
		}
	}
	slices.SortFunc(l, func(a, b api.Put) int { return a.At - b.At })
	return l
}

// transactions answers those of a ring of n, of which so much is free, one behind the other, each as a text.
func transactions(t testing.TB, d *disk.Disk, n, free int) []string {
	t.Helper()
	h, _, e := head.Load(d, 0)
	wantErr(t, "head.Load", e, api.OK)
	var all []string
	var pieces []lap.Piece
	for i := range n - free {
		b, _ := d.Read(2 + int((h.Tail+uint64(i))%uint64(n)))
		p, e := lap.Unseal(b)
		wantErr(t, "lap.Unseal", e, api.OK)
		pieces = append(pieces, p)
		if p.Last {
			record, e := lap.Join(pieces)
			wantErr(t, "lap.Join", e, api.OK)
			all, pieces = append(all, fmt.Sprintf("%x", putsOf(record))), nil
		}
	}
	return all
}

// world is a disk with its cache, and a model of it.
type world struct {
	t     testing.TB
	d     *disk.Disk
	n     int // of the ring
	slots int
	c     *pcache.Cache
	m     *model
	homes []string // what they should be
	// What is expected of the ring.
	ring []string
	free int
	// What homes may be when the cache is opened anew behind a crash: as behind each change, from the last one on that lasts surely.
	may [][]string
}

// newWorld answers a new cache with a ring of n.
func newWorld(t testing.TB, n, slots int) *world {
	t.Helper()
	return worldOf(t, newDisk(t, 2+n+1+slots), n, slots)
}

// worldOf answers the cache of a disk.
func worldOf(t testing.TB, d *disk.Disk, n, slots int) *world {
	t.Helper()
	w := &world{t: t, d: d, n: n, slots: slots}
	w.reopen()
	return w
}

// reopen opens the cache anew: it must be as its homes say.
func (w *world) reopen() {
	w.t.Helper()
	before, waits := sectors(w.t, w.d), w.d.Waits()
	w.c = open(w.t, w.d, w.n, w.slots)
	if !slices.Equal(sectors(w.t, w.d), before) || !slices.Equal(w.d.Waits(), waits) {
		w.t.Fatal("Open wrote something")
	}
	w.homes, w.free = logged(w.t, w.d, w.n)
	w.ring = transactions(w.t, w.d, w.n, w.free)
	w.m = modelOf(w.homes[:1+w.slots])
	w.may = [][]string{w.homes}
	w.wantTold("opened")
}

// do does a call, and fails the test unless it tells, and changes, what the model says: as one transaction of what is otherwise, which waits for a Sync.
func (w *world) do(o op) answer {
	w.t.Helper()
	want := o.onModel(w.m)
	before := len(w.d.Waits())
	got := o.onCache(w.c)
	name := fmt.Sprintf("%+v", o)
	if !got.is(want) {
		w.t.Fatalf("%s: %v, want %v", name, got, want)
	}
	wrote := w.expect(w.m.spell(w.homes))
	switch {
	case got.err == api.OK && (o.call == "SetNumber" || o.call == "Sync"):
		w.may = w.may[len(w.may)-1:]
		w.wantWaits(name, 0)
	case wrote >= 0:
		w.wantWaits(name, before+wrote)
	}
	w.wantDisk(name)
	w.wantTold(name)
	return got
}

// expect has homes be expected to be so: as one transaction behind all others, or alone, where there is no room. It answers how many writes wait for that, or -1 where all was brought home ahead.
func (w *world) expect(homes []string) int {
	l := puts(w.homes, homes)
	if len(l) == 0 {
		return 0
	}
	need := redo.Need(l)
	wrote := need
	if need > w.free {
		w.ring, w.free, wrote = nil, w.n, -1
		w.may = w.may[len(w.may)-1:]
	}
	w.ring, w.free = append(w.ring, fmt.Sprintf("%x", l)), w.free-need
	w.homes, w.may = homes, append(w.may, homes)
	return wrote
}

// wantWaits fails the test unless so many writes wait.
func (w *world) wantWaits(name string, n int) {
	w.t.Helper()
	if l := w.d.Waits(); len(l) != n {
		w.t.Fatalf("%s: %v wait, want %d writes", name, l, n)
	}
}

// wantDisk fails the test unless the disk has the homes, and the ring, that are expected.
func (w *world) wantDisk(name string) {
	w.t.Helper()
	all, free := logged(w.t, w.d, w.n)
	wantHomes(w.t, name, all, w.homes)
	if free != w.free {
		w.t.Fatalf("%s: %d of the ring are free, want %d", name, free, w.free)
	}
	if l := transactions(w.t, w.d, w.n, free); !slices.Equal(l, w.ring) {
		w.t.Fatalf("%s: the ring has %d transactions\n%s, want %d\n%s", name, len(l), l, len(w.ring), w.ring)
	}
}

// wantTold fails the test unless the cache tells all that its model has, but for Get, which would mark it.
func (w *world) wantTold(name string) {
	w.t.Helper()
	wantSlots(w.t, name+": All", w.c.All(), w.m.all(func(slot.Slot) bool { return true }))
	wantSlots(w.t, name+": Dirty", w.c.Dirty(), w.m.all(func(x slot.Slot) bool { return x.Dirty }))
	for _, f := range w.m.files() {
		wantSlots(w.t, fmt.Sprintf("%s: Of %v", name, f), w.c.Of(f), w.m.all(func(x slot.Slot) bool { return x.Block.File == f }))
	}
	if n := w.c.Number(); n != w.m.number {
		w.t.Fatalf("%s: Number is %d, want %d", name, n, w.m.number)
	}
}

// wantSlots fails the test unless Slots are these.
func wantSlots(t testing.TB, name string, got, want []slot.Slot) {
	t.Helper()
	if !slices.Equal(got, want) {
		t.Fatalf("%s: %+v, want %+v", name, got, want)
	}
}

// wantDo fails the test unless a call tells this error, too.
func (w *world) wantDo(o op, want api.Errno) {
	w.t.Helper()
	wantErr(w.t, fmt.Sprintf("%+v", o), w.do(o).err, want)
}

// put, drop, dropFile, retag, set and sync do a call, which must tell this.
func (w *world) put(x slot.Slot, want api.Errno) {
	w.t.Helper()
	w.wantDo(op{call: "Put", x: x}, want)
}

func (w *world) drop(b api.Block, want api.Errno) {
	w.t.Helper()
	w.wantDo(op{call: "Drop", x: slot.Slot{Block: b}}, want)
}

func (w *world) dropFile(f api.File) {
	w.t.Helper()
	w.wantDo(op{call: "DropFile", x: slot.Slot{Block: api.Block{File: f}}}, api.OK)
}

func (w *world) retag(f api.File, version uint64, want api.Errno) {
	w.t.Helper()
	w.wantDo(op{call: "Retag", x: slot.Slot{Block: api.Block{File: f}}, n: version}, want)
}

func (w *world) set(x uint64, want api.Errno) {
	w.t.Helper()
	w.wantDo(op{call: "SetNumber", n: x}, want)
}

func (w *world) sync() {
	w.t.Helper()
	w.wantDo(op{call: "Sync"}, api.OK)
}

// get asks for a block, and fails the test unless it is kept, or not.
func (w *world) get(b api.Block, want bool) {
	w.t.Helper()
	if a := w.do(op{call: "Get", x: slot.Slot{Block: b}}); a.ok != want {
		w.t.Fatalf("Get %v: %t, want %t", b, a.ok, want)
	}
}

// wantKept fails the test unless these blocks of file 2.1 alone are kept.
func (w *world) wantKept(at ...int) {
	w.t.Helper()
	var got []int
	for _, x := range w.c.All() {
		if x.Block.File != two {
			w.t.Fatalf("%+v is kept", x)
		}
		got = append(got, x.Block.At)
	}
	if !slices.Equal(got, at) {
		w.t.Fatalf("%v are kept, want %v", got, at)
	}
}
