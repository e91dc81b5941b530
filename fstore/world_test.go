package fstore_test

import (
	"bytes"
	"fmt"
	"math/rand"
	"slices"
	"strings"
	"testing"

	"tenancy/api"
	"tenancy/bits"
	"tenancy/disk"
	"tenancy/fstore"
	"tenancy/head"
	"tenancy/lap"
	"tenancy/redo"
)

var root = api.File{Ino: 1, Gen: 1}

// wantErr fails the test unless a call told this.
func wantErr(t testing.TB, name string, got, want api.Errno) {
	t.Helper()
	if got != want {
		t.Fatalf("%s: error %d, want %d", name, got, want)
	}
}

// newDisk answers a disk of n sectors.
func newDisk(t testing.TB, n int) *disk.Disk {
	t.Helper()
	d, e := disk.New(n)
	wantErr(t, "disk.New", e, api.OK)
	return d
}

// open answers the store of a disk with a ring of n.
func open(t testing.TB, d *disk.Disk, n int) *fstore.Store {
	t.Helper()
	s, e := fstore.Open(d, n)
	if s == nil || e != api.OK {
		t.Fatalf("Open: a store: %t, error %d", s != nil, e)
	}
	return s
}

// sectors answers all that a disk reads.
func sectors(t testing.TB, d *disk.Disk) []string {
	t.Helper()
	l := make([]string, d.Size())
	for i := range l {
		b, e := d.Read(i)
		wantErr(t, "disk.Read", e, api.OK)
		l[i] = string(b)
	}
	return l
}

// homes answers what a disk's homes are, by a log of its own.
func homes(t testing.TB, d *disk.Disk, n int) []string {
	t.Helper()
	all, _ := logged(t, d, n)
	return all
}

// logged answers what a disk's homes are, and how much of its ring is free, by a log of its own.
func logged(t testing.TB, d *disk.Disk, n int) ([]string, int) {
	t.Helper()
	l, e := redo.Open(d, n)
	wantErr(t, "redo.Open", e, api.OK)
	all := make([]string, l.Homes())
	for i := range all {
		b, e := l.Read(i)
		wantErr(t, "redo.Read", e, api.OK)
		all[i] = string(b)
	}
	return all, l.Free()
}

// wantHomes fails the test unless homes are these.
func wantHomes(t testing.TB, name string, got, want []string) {
	t.Helper()
	if len(got) != len(want) {
		t.Fatalf("%s: %d homes, want %d", name, len(got), len(want))
	}
	for i := range got {
		if got[i] != want[i] {
			t.Fatalf("%s: home %d is %x, want %x", name, i, got[i], want[i])
		}
	}
}

// puts answers what is otherwise in homes, rising.
func puts(before, after []string) []api.Put {
	var l []api.Put
	for i := range after {
		if before[i] != after[i] {
			l = append(l, api.Put{At: i, Data: []byte(after[i])})
		}
	}
	return l
}

// recordOf answers a transaction's record.
func recordOf(l []api.Put) string {
	w := bits.New().Put(uint64(len(l)), 8)
	for _, p := range l {
		w.Put(uint64(p.At), 12)
		for _, x := range p.Data {
			w.Put(uint64(x), 8)
		}
	}
	b, _ := w.Done()
	return string(b)
}

// records answers those of a ring of n, of which so much is free, one behind the other.
func records(t testing.TB, d *disk.Disk, n, free int) []string {
	t.Helper()
	h, _, e := head.Load(d, 0)
	wantErr(t, "head.Load", e, api.OK)
	var all []string
	var pieces []lap.Piece
	for i := range n - free {
		b, _ := d.Read(2 + (int(h.Tail)+i)%n)
		p, e := lap.Unseal(b)
		wantErr(t, "lap.Unseal", e, api.OK)
		pieces = append(pieces, p)
		if p.Last {
			record, e := lap.Join(pieces)
			wantErr(t, "lap.Join", e, api.OK)
			all, pieces = append(all, string(record)), nil
		}
	}
	return all
}

// world is a disk with its store, and a model of it.
type world struct {
	t testing.TB
	d *disk.Disk
	n int // of the ring
	s *fstore.Store
	m *model
	// What is expected of the ring.
	ring []string
	free int
}

// newWorld answers a new store with a ring of n.
func newWorld(t testing.TB, n, homes int) *world {
	t.Helper()
	w := &world{t: t, d: newDisk(t, 2+n+homes), n: n, m: newModel(homes)}
	w.reopen()
	return w
}

// worldOf answers a store whose homes were laid by a model.
func worldOf(t testing.TB, n int, m *model) *world {
	t.Helper()
	w := &world{t: t, d: newDisk(t, 2+n+len(m.homes)), n: n, m: m.spell()}
	layHomes(t, w.d, n, m.homes)
	w.reopen()
	return w
}

// reopen opens the store anew; what its ring has is what is expected of it.
func (w *world) reopen() {
	w.t.Helper()
	w.s = open(w.t, w.d, w.n)
	_, w.free = logged(w.t, w.d, w.n)
	w.ring = records(w.t, w.d, w.n, w.free)
	w.wantAll()
}

// layHomes has a disk's homes be these, by a log of its own.
func layHomes(t testing.TB, d *disk.Disk, n int, want []string) {
	t.Helper()
	l, e := redo.Open(d, n)
	wantErr(t, "redo.Open", e, api.OK)
	for _, p := range puts(homes(t, d, n), want) {
		if l.Free() < redo.Need([]api.Put{p}) {
			wantErr(t, "redo.Checkpoint", l.Checkpoint(), api.OK)
		}
		wantErr(t, "redo.Write", l.Write([]api.Put{p}), api.OK)
	}
	wantErr(t, "redo.Checkpoint", l.Checkpoint(), api.OK)
}

// do does a call, and fails the test unless it tells, and changes, what the model says: as one transaction of what is otherwise, which lasts.
func (w *world) do(o op) answer {
	w.t.Helper()
	want, after := o.onModel(w.m)
	w.expect(puts(w.m.homes, after.homes))
	w.m = after
	got := o.onStore(w.s)
	name := fmt.Sprintf("%+v", o)
	if !got.is(want) {
		w.t.Fatalf("%s: %v, want %v", name, got, want)
	}
	if l := w.d.Waits(); len(l) > 0 {
		w.t.Fatalf("%s: %v wait", name, l)
	}
	w.wantDisk(name)
	return got
}

// expect has a ring be expected to have a transaction of these homes behind all others, or alone, where there is no room.
func (w *world) expect(l []api.Put) {
	if len(l) == 0 {
		return
	}
	need := redo.Need(l)
	if need > w.free {
		w.ring, w.free = nil, w.n
	}
	w.ring, w.free = append(w.ring, recordOf(l)), w.free-need
}

// wantDisk fails the test unless the disk has the model's homes, and the ring what is expected.
func (w *world) wantDisk(name string) {
	w.t.Helper()
	all, free := logged(w.t, w.d, w.n)
	wantHomes(w.t, name, all, w.m.homes)
	if free != w.free {
		w.t.Fatalf("%s: %d of the ring are free, want %d", name, free, w.free)
	}
	if l := records(w.t, w.d, w.n, free); !slices.Equal(l, w.ring) {
		w.t.Fatalf("%s: the ring has %d records\n%x, want %d\n%x", name, len(l), l, len(w.ring), w.ring)
	}
}

// wantDo fails the test unless a call tells this error, too.
func (w *world) wantDo(o op, want api.Errno) answer {
	w.t.Helper()
	a := w.do(o)
	wantErr(w.t, fmt.Sprintf("%+v", o), a.err, want)
	return a
}

// looks answers calls that ask a store for all that it has, and for some that it has not.
func (m *model) looks() []op {
	l := []op{{call: "Record"}}
	for i, x := range m.nodes {
		for gen := x.gen - 1; gen <= x.gen+1; gen++ {
			f := api.File{Ino: i, Gen: gen}
			l = append(l, op{call: "Attr", f: f}, op{call: "List", f: f}, op{call: "Read", f: f, at: i % 8}, op{call: "Lookup", f: f, s: "no"})
			if gen == x.gen && x.kind == api.KFile {
				for k := range 8 {
					l = append(l, op{call: "Read", f: f, at: k})
				}
			}
			if gen == x.gen {
				for _, e := range x.entries {
					l = append(l, op{call: "Lookup", f: f, s: e.Name})
				}
			}
		}
	}
	return l
}

// wantAll fails the test unless a store has all that its model has, and no more.
func (w *world) wantAll() {
	w.t.Helper()
	w.wantTold("all", w.m)
	w.wantDisk("all")
}

// wantTold fails the test unless a store tells all that a model has.
func (w *world) wantTold(name string, m *model) {
	w.t.Helper()
	for _, o := range m.looks() {
		want, _ := o.onModel(m)
		if got := o.onStore(w.s); !got.is(want) {
			w.t.Fatalf("%s: %+v: %v, want %v", name, o, got, want)
		}
	}
}

// files answers files and directories of a kind that are there.
func (m *model) files(kind int) []api.File {
	var l []api.File
	for i, x := range m.nodes {
		if x.kind == kind {
			l = append(l, api.File{Ino: i, Gen: x.gen})
		}
	}
	return l
}

// someOf answers one of a list, or the zero one of an empty list.
func someOf[T any](r *rand.Rand, l []T) (x T) {
	if len(l) > 0 {
		x = l[r.Intn(len(l))]
	}
	return x
}

// someFile answers a file or directory, mostly one of this kind that is there.
func (m *model) someFile(r *rand.Rand, kind int) api.File {
	switch r.Intn(40) {
	case 0:
		return api.File{Ino: r.Intn(45) - 2, Gen: r.Intn(4)}
	case 1:
		return someOf(r, m.files(3-kind))
	case 2:
		f := someOf(r, m.files(kind))
		f.Gen += 1 - 2*r.Intn(2)
		return f
	}
	return someOf(r, m.files(kind))
}

// someName answers a name, mostly one that a directory has.
func (m *model) someName(r *rand.Rand, f api.File) string {
	if r.Intn(30) == 0 {
		return someOf(r, []string{"", ".", "..", "a/b", "a b", "\x7f", "~", "!", strings.Repeat("x", 16), strings.Repeat("x", 17)})
	}
	if m.wrong(f, api.KDir) == api.OK && r.Intn(4) > 0 {
		if x := someOf(r, m.nodes[f.Ino].entries); x.Name != "" {
			return x.Name
		}
	}
	return newName(r)
}

// newName answers one of some thirty names.
func newName(r *rand.Rand) string { return fmt.Sprintf("n%d", r.Intn(33)) }

// someData answers a block's bytes.
func someData(r *rand.Rand) string {
	b := make([]byte, someOf(r, []int{0, 0, 1, 1, 2, 5, 30, 63, 64, 64, 65, 66, 127, 256}))
	r.Read(b)
	if r.Intn(3) == 0 {
		clear(b)
	}
	return string(b)
}

// someRecord answers a record, which mostly is one.
func someRecord(r *rand.Rand) string {
	return string(bytes.Repeat([]byte{byte(r.Intn(3))}, someOf(r, []int{128, 128, 128, 128, 127, 129, 0, 64})))
}

// some answers a call; the more of those that make something, the less small is.
func (m *model) some(r *rand.Rand, small int) op {
	in := m.someFile(r, api.KDir)
	file := m.someFile(r, api.KFile)
	switch k := r.Intn(100); {
	case k < 3:
		return op{call: someOf(r, []string{"Attr", "List", "Record"}), f: someOf(r, []api.File{in, file})}
	case k < 6:
		return op{call: "Read", f: file, at: r.Intn(10) - 1}
	case k < 9:
		return op{call: "Lookup", f: in, s: m.someName(r, in)}
	case k < 12:
		return op{call: "SetRecord", s: someRecord(r)}
	case k < 12+small:
		return op{call: "Remove", f: in, s: m.someName(r, in)}
	case k < 12+small+small/8:
		return op{call: "Truncate", f: file}
	case k < 60:
		other := someOf(r, []api.File{in, m.someFile(r, api.KDir)})
		return op{call: "Rename", f: in, s: m.someName(r, in), g: other, u: someOf(r, []string{newName(r), m.someName(r, other)})}
	case k < 80:
		return op{call: "Create", f: in, s: newName(r), at: someOf(r, []int{1, 1, 1, 1, 2, 2, 2, 2, 2, 2, 2, 2, 0, 3})}
	}
	return op{call: "Write", f: file, at: someOf(r, []int{0, 1, 2, 3, 4, 5, 6, 7, 0, 7, -1, 8}), s: someData(r)}
}
