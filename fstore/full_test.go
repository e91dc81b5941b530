package fstore_test

import (
	"fmt"
	"math"
	"testing"

	"tenancy/api"
	"tenancy/disk"
	"tenancy/fstore"
	"tenancy/head"
	"tenancy/redo"
)

// fill makes n files in a directory, and answers them.
func (w *world) fill(in api.File, n int) []api.File {
	w.t.Helper()
	var l []api.File
	for i := range n {
		l = append(l, w.create(in, fmt.Sprintf("f%02d", i), api.KFile))
	}
	return l
}

// TestEntriesFull is P11.4 and P11.5: a directory has 24 entries at most; one of them may be moved, and another one be put in place of one.
func TestEntriesFull(t *testing.T) {
	w := newWorld(t, 20, 80)
	w.create(root, "d", api.KDir)
	d := w.create(root, "e", api.KDir)
	w.create(root, "f00", api.KFile)
	w.fill(d, 24)
	w.wantAll()
	w.wantDo(op{call: "Create", f: d, s: "new", at: api.KFile}, api.ErrFull)
	w.wantDo(op{call: "Create", f: d, s: "A", at: api.KDir}, api.ErrFull)
	w.wantDo(op{call: "Create", f: d, s: "f03", at: api.KFile}, api.ErrThere)
	w.rename(root, "f00", d, "new", api.ErrFull)
	w.rename(root, "d", d, "new", api.ErrFull)
	w.rename(root, "d", d, "f00", api.ErrKind)
	w.rename(root, "e", d, "new", api.ErrArg)
	w.rename(d, "f03", d, "new", api.OK)
	w.rename(d, "f23", d, "A", api.OK)
	w.rename(root, "f00", d, "A", api.OK)
	w.rename(d, "f05", d, "A", api.OK)
	w.create(d, "f05", api.KDir)
	w.wantDo(op{call: "Create", f: d, s: "one", at: api.KDir}, api.ErrFull)
	w.rename(root, "d", d, "f05", api.OK)
	w.rename(d, "f05", root, "f05", api.OK)
	w.rename(root, "f05", d, "Z", api.OK)
	w.wantAll()
}

// TestFilesFull is P11.4: there are 40 files and directories at most, the root among them; the least free Inode is taken, and its Gen is one more.
func TestFilesFull(t *testing.T) {
	w := newWorld(t, 20, 80)
	d := w.create(root, "d", api.KDir)
	w.fill(root, 23)
	l := w.fill(d, 15)
	if l[14] != (api.File{Ino: 40, Gen: 1}) {
		t.Fatalf("the last one is %v", l[14])
	}
	w.wantDo(op{call: "Create", f: d, s: "new", at: api.KFile}, api.ErrFull)
	w.wantDo(op{call: "Create", f: d, s: "new", at: api.KDir}, api.ErrFull)
	for _, s := range []string{"f11", "f02", "f14"} {
		w.remove(d, s, api.OK)
	}
	for _, want := range []api.File{{Ino: 28, Gen: 2}, {Ino: 37, Gen: 2}, {Ino: 40, Gen: 2}} {
		if f := w.create(d, fmt.Sprintf("n%d", want.Ino), api.KFile); f != want {
			t.Fatalf("made %v, want %v", f, want)
		}
	}
	w.wantDo(op{call: "Create", f: d, s: "new", at: api.KFile}, api.ErrFull)
	// What is put in place of another one frees that one's Inode.
	w.rename(root, "f01", d, "f05", api.OK)
	if f := w.create(d, "new", api.KFile); f != (api.File{Ino: 31, Gen: 2}) {
		t.Fatalf("made %v", f)
	}
	w.wantAll()
}

// TestGenFull is P11.4: an Inode whose Gen can be no more is no file's any more.
func TestGenFull(t *testing.T) {
	m := newModel(60)
	for i := 2; i <= 40; i++ {
		m.nodes[i].gen = math.MaxInt32
	}
	w := worldOf(t, 20, m)
	w.wantDo(op{call: "Create", f: root, s: "a", at: api.KFile}, api.ErrFull)
	m = newModel(60)
	for i := 2; i <= 9; i++ {
		m.nodes[i].gen = math.MaxInt32 - i%2
	}
	w = worldOf(t, 20, m)
	for _, want := range []api.File{{Ino: 3, Gen: math.MaxInt32}, {Ino: 5, Gen: math.MaxInt32}} {
		if f := w.create(root, "a", api.KFile); f != want {
			t.Fatalf("made %v, want %v", f, want)
		}
		w.remove(root, "a", api.OK)
		w.wantAll()
	}
	l := w.fill(root, 3)
	if l[0] != (api.File{Ino: 7, Gen: math.MaxInt32}) || l[1] != (api.File{Ino: 9, Gen: math.MaxInt32}) || l[2] != (api.File{Ino: 10, Gen: 1}) {
		t.Fatalf("made %v", l)
	}
}

// versioned answers a store with a root of Version v, a file a of Version x with a block, a directory d of Version y with a file b, and an empty directory e.
func versioned(t testing.TB, v, x, y int) (w *world, a, d, e api.File) {
	t.Helper()
	w = newWorld(t, 20, 60)
	a = w.create(root, "a", api.KFile)
	d = w.create(root, "d", api.KDir)
	e = w.create(root, "e", api.KDir)
	w.create(d, "b", api.KFile)
	w.write(a, 0, "old", api.OK)
	m := w.m.clone()
	m.nodes[1].version, m.nodes[a.Ino].version, m.nodes[d.Ino].version = v, x, y
	return worldOf(t, 20, m), a, d, e
}

// TestVersionFull is P11.2: ErrFull, where a Version would be above MaxCount; nothing is changed then.
func TestVersionFull(t *testing.T) {
	for _, left := range []int{0, 1, 2} {
		w, a, _, _ := versioned(t, 9, maxCount-left, 9)
		for k := range 3 {
			want := map[bool]api.Errno{true: api.OK, false: api.ErrFull}[k < left]
			w.write(a, k, "new", want)
		}
		w.write(a, 0, "", api.ErrFull)
		w.write(a, 8, "", api.ErrArg)
		w.wantDo(op{call: "Truncate", f: a}, api.ErrFull)
		w.wantAll()
		// What is moved, or removed, needs no Version.
		w.rename(root, "a", root, "A", api.OK)
		w.remove(root, "A", api.OK)
	}
	w, a, d, e := versioned(t, maxCount, 9, maxCount-1)
	w.wantDo(op{call: "Create", f: root, s: "new", at: api.KFile}, api.ErrFull)
	w.wantDo(op{call: "Create", f: root, s: "a", at: api.KFile}, api.ErrThere)
	w.remove(root, "a", api.ErrFull)
	w.remove(root, "d", api.ErrNotEmpty)
	w.rename(root, "a", root, "new", api.ErrFull)
	w.rename(root, "a", root, "a", api.OK)
	w.rename(root, "a", root, "d", api.ErrKind)
	w.rename(root, "a", e, "new", api.ErrFull)
	w.rename(d, "b", root, "new", api.ErrFull)
	w.rename(d, "b", root, "a", api.ErrFull)
	w.write(a, 0, "new", api.OK)
	w.wantDo(op{call: "Truncate", f: a}, api.OK)
	w.rename(d, "b", d, "c", api.OK)
	w.rename(d, "c", e, "c", api.ErrFull)
	w.rename(d, "c", d, "b", api.ErrFull)
	w.remove(d, "c", api.ErrFull)
	w.create(e, "f", api.KFile)
	w.rename(e, "f", d, "c", api.ErrFull)
	w.rename(e, "f", d, "f", api.ErrFull)
	w.wantAll()
}

// TestHomesFull is P11.2 to P11.6: ErrFull, where there is no home; what needs none is done.
func TestHomesFull(t *testing.T) {
	w := newWorld(t, 20, 46)
	l := w.fill(root, 4)
	d := w.create(root, "d", api.KDir)
	for i := range 3 {
		w.write(l[0], i, "x", api.OK)
	}
	w.write(l[0], 3, "x", api.ErrFull)
	w.write(l[1], 0, "x", api.ErrFull)
	w.write(l[1], 0, "", api.OK)
	w.write(l[0], 2, "y", api.OK)
	w.wantDo(op{call: "Create", f: root, s: "new", at: api.KFile}, api.ErrFull)
	w.wantDo(op{call: "Create", f: d, s: "new", at: api.KFile}, api.ErrFull)
	w.rename(root, "f01", d, "new", api.ErrFull)
	w.rename(root, "f01", root, "new", api.OK)
	w.rename(root, "new", root, "f02", api.OK)
	w.wantAll()
	// A place for a block is free, and is taken; then it is not free any more.
	w.write(l[0], 1, "", api.OK)
	w.create(d, "in", api.KFile)
	w.write(l[0], 1, "x", api.ErrFull)
	w.rename(root, "f02", d, "f02", api.OK)
	w.wantDo(op{call: "Truncate", f: l[0]}, api.OK)
	w.write(l[0], 7, "x", api.OK)
	w.write(l[0], 0, "x", api.OK)
	w.write(l[0], 1, "x", api.ErrFull)
	w.remove(root, "f00", api.OK)
	w.write(l[3], 0, "x", api.OK)
	w.write(l[3], 1, "x", api.OK)
	w.write(l[3], 2, "x", api.ErrFull)
	w.wantAll()
}

// TestHomesFullRename is P11.5: ErrFull, if there is no home then: behind what was freed, and what the elder directory has no more.
func TestHomesFullRename(t *testing.T) {
	for _, n := range []int{5, 6, 7, 10, 11, 12} {
		w := newWorld(t, 20, 60)
		w.create(root, "d", api.KDir)
		d, e := w.create(root, "A", api.KDir), w.create(root, "B", api.KDir)
		l := w.fill(d, n)
		for i := 0; w.do(op{call: "Write", f: l[i/8], at: i % 8, s: "x"}).err == api.OK; i++ {
		}
		want := map[bool]api.Errno{true: api.OK, false: api.ErrFull}[n%5 == 1]
		last := fmt.Sprintf("f%02d", n-1)
		w.rename(d, last, e, last, want)
		w.wantAll()
	}
}

// TestLeastHomes is P11.2: new homes are the least free ones; those that a directory has stay.
func TestLeastHomes(t *testing.T) {
	w := newWorld(t, 20, 80)
	a := w.create(root, "a", api.KFile)
	for i := range 8 {
		w.write(a, 7-i, "x", api.OK)
	}
	for _, i := range []int{4, 1, 6} {
		w.write(a, i, "", api.OK)
	}
	b := w.create(root, "b", api.KFile)
	for i := range 5 {
		w.write(b, i, "x", api.OK)
	}
	if at := w.m.nodes[b.Ino].at; at != [8]int{44, 46, 49, 51, 52} {
		t.Fatalf("blocks lie at %v", at)
	}
	// The second block of the root lies ahead of what a has, once that was freed.
	w.remove(root, "a", api.OK)
	w.fill(root, 6)
	if at := w.m.nodes[1].at; at != [8]int{42, 43} {
		t.Fatalf("the root lies at %v", at)
	}
	w.wantAll()
}

// TestRenameHomes is P11.5: what is freed is free for what is put behind it, in one change; a directory that is one less, and then one more, takes the least home.
func TestRenameHomes(t *testing.T) {
	w := newWorld(t, 20, 80)
	d := w.create(root, "d", api.KDir)
	l := w.fill(d, 2)
	w.write(l[0], 0, "x", api.OK)
	for i := range 4 {
		w.create(d, fmt.Sprintf("g%d", i), api.KFile)
	}
	if at := w.m.nodes[d.Ino].at; at != [8]int{43, 45} {
		t.Fatalf("d lies at %v", at)
	}
	w.rename(d, "f01", d, "f02", api.OK)
	if at := w.m.nodes[d.Ino].at; at != [8]int{43, 45} {
		t.Fatalf("d lies at %v", at)
	}
	w.write(l[0], 0, "", api.OK)
	w.rename(d, "f02", d, "f01", api.OK)
	if at := w.m.nodes[d.Ino].at; at != [8]int{43, 44} {
		t.Fatalf("d lies at %v", at)
	}
	w.write(l[0], 0, "x", api.OK)
	w.rename(d, "f01", d, "f00", api.OK)
	if at := w.m.nodes[d.Ino].at; at != [8]int{43} {
		t.Fatalf("d lies at %v", at)
	}
	w.wantAll()
}

// TestRenameBelow is P11.5: ErrArg of a directory that is where it should go, or above it, however deep; not of those beside it, and not of files.
func TestRenameBelow(t *testing.T) {
	w := newWorld(t, 30, 120)
	chain := []api.File{root}
	for i := range 38 {
		chain = append(chain, w.create(chain[i], "d", api.KDir))
		if i == 17 {
			w.create(chain[i], "file", api.KFile)
		}
	}
	for i := 1; i < len(chain); i++ {
		for _, k := range []int{0, 1, i - 1, i, i + 1, i + 5, len(chain) - 1} {
			if k < 0 || k >= len(chain) || k < i && k != i-1 {
				continue
			}
			want := map[bool]api.Errno{true: api.ErrArg, false: api.OK}[k >= i]
			w.rename(chain[i-1], "d", chain[k], map[bool]string{true: "new", false: "d"}[k >= i], want)
		}
	}
	w.rename(chain[17], "file", chain[38], "file", api.OK)
	w.rename(chain[20], "d", chain[2], "side", api.OK)
	w.rename(chain[2], "d", chain[30], "d", api.ErrNotEmpty)
	w.rename(chain[2], "d", chain[30], "e", api.OK)
	w.rename(chain[2], "side", chain[10], "x", api.ErrArg)
	w.rename(root, "d", chain[38], "x", api.ErrArg)
	w.rename(chain[30], "e", root, "d", api.ErrNotEmpty)
	w.rename(chain[30], "e", root, "e", api.OK)
	w.wantAll()
}

// TestRenameOver is P11.5: a file is put in place of a file, an empty directory of an empty directory, in the same directory or another one; what was there is freed.
func TestRenameOver(t *testing.T) {
	for _, kind := range []int{api.KFile, api.KDir} {
		for _, within := range []bool{false, true} {
			w := newWorld(t, 40, 80)
			d := w.create(root, "d", api.KDir)
			if within {
				d = root
			}
			a, b := w.create(root, "a", kind), w.create(d, "b", kind)
			if kind == api.KFile {
				for i := range 8 {
					w.write(a, i, "a", api.OK)
					w.write(b, i, "b", api.OK)
				}
			} else {
				w.create(a, "in", api.KFile)
			}
			w.rename(root, "a", d, "b", api.OK)
			w.wantAll()
			if x, e := w.s.Lookup(d, "b"); x != (api.Entry{Name: "b", File: a, Kind: kind}) || e != api.OK {
				t.Fatalf("b is %v, error %d", x, e)
			}
			if _, e := w.s.Attr(b); e != api.ErrGone {
				t.Fatalf("b as it was: error %d", e)
			}
		}
	}
}

// gens answers a store whose newest Head has this Gen, and whose next count is this.
func gens(t testing.TB, gen, tail uint64) (*disk.Disk, *fstore.Store) {
	t.Helper()
	d := newDisk(t, 2+20+60)
	open(t, d, 20)
	l, _ := redo.Open(d, 20)
	wantErr(t, "Checkpoint", l.Checkpoint(), api.OK)
	wantErr(t, "head.Save", head.Save(d, 0, 1, head.Head{Gen: gen, Tail: tail, Floor: 1}), api.OK)
	return d, open(t, d, 20)
}

// TestLogFull is P11.2: where Write answers ErrFull a Checkpoint goes ahead, once; what that, or Write behind it, tells is answered, and nothing is changed.
func TestLogFull(t *testing.T) {
	for _, x := range []struct {
		name      string
		gen, tail uint64
		ends      uint64 // the Gen of the Head then
	}{
		{"no Gen is left", maxCount, 0, maxCount},
		{"no count is left", 8, maxCount - 10, 9},
	} {
		d, s := gens(t, x.gen, x.tail)
		f, e := s.Create(root, "a", api.KFile)
		wantErr(t, "Create", e, api.OK)
		m := newModel(60)
		_, m = op{call: "Create", f: root, s: "a", at: api.KFile}.onModel(m)
		w := &world{t: t, d: d, n: 20, s: s, m: m}
		for i := range 100 {
			o := op{call: "Write", f: f, s: fmt.Sprint(i)}
			want, after := o.onModel(w.m)
			got := o.onStore(s)
			if got.err != api.OK {
				wantErr(t, x.name, got.err, api.ErrFull)
				break
			}
			if !got.is(want) {
				t.Fatalf("%s: %v, want %v", x.name, got, want)
			}
			w.m = after
		}
		w.wantTold(x.name, w.m)
		wantHomes(t, x.name, homes(t, d, 20), w.m.homes)
		wantErr(t, x.name, op{call: "Write", f: f, s: "new"}.onStore(s).err, api.ErrFull)
		wantErr(t, x.name, op{call: "Truncate", f: f}.onStore(s).err, api.ErrFull)
		w.wantTold(x.name, w.m)
		// Each of three calls that told ErrFull had a Checkpoint of its own, where there could be one.
		if x.ends != maxCount {
			x.ends += 2
		}
		if h, _, _ := head.Load(d, 0); h.Gen != x.ends {
			t.Errorf("%s: the Head's Gen is %d, want %d", x.name, h.Gen, x.ends)
		}
	}
}
