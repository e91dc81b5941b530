package tree_test

import (
	"math/rand"
	"slices"
	"strings"
	"testing"

	"tenancy/api"
	"tenancy/dir"
	"tenancy/disk"
	"tenancy/inode"
	"tenancy/redo"
	"tenancy/tree"
)

// sectors answers all that a disk reads.
func sectors(t testing.TB, d *disk.Disk) []string {
	t.Helper()
	l := make([]string, d.Size())
	for i := range l {
		b, e := d.Read(i)
		wantErr(t, "disk.Read", e, api.OK)
		l[i] = string(b)
	}
	return l
}

// lay has a home of a disk be this, by a log of its own.
func lay(t testing.TB, d *disk.Disk, at int, b []byte) {
	t.Helper()
	l, e := redo.Open(d, ring)
	wantErr(t, "redo.Open", e, api.OK)
	wantErr(t, "redo.Checkpoint", l.Checkpoint(), api.OK)
	wantErr(t, "redo.Write", l.Write([]api.Put{{At: at, Data: b}}), api.OK)
	wantErr(t, "redo.Checkpoint", l.Checkpoint(), api.OK)
}

// layInode has the Inode of a number be this; its blocks lie at these homes.
func layInode(t testing.TB, d *disk.Disk, ino, kind, gen int, version uint64, blocks ...int) {
	t.Helper()
	x := inode.Inode{Kind: kind, Gen: gen, Version: version}
	copy(x.Blocks[:], blocks)
	b, e := inode.Encode(x)
	wantErr(t, "inode.Encode", e, api.OK)
	lay(t, d, 1+ino, b)
}

// layEntries has a home be the block of at most five entries.
func layEntries(t testing.TB, d *disk.Disk, at int, l ...api.Entry) {
	t.Helper()
	b, e := dir.Blocks(l)
	wantErr(t, "dir.Blocks", e, api.OK)
	lay(t, d, at, b[0])
}

// layJunk has a home be no block's, and no directory's.
func layJunk(t testing.TB, d *disk.Disk, at int) {
	t.Helper()
	lay(t, d, at, []byte(strings.Repeat("\xff", api.Sector)))
}

// What someDisk has, and where the homes of it are: the root's entries at 42.
var (
	dirA  = api.File{Ino: 2, Gen: 1} // /a, whose entries are at 43
	fileB = api.File{Ino: 3, Gen: 1} // /a/b, whose blocks 0 and 7 are at 44 and 45
	fileC = api.File{Ino: 4, Gen: 1} // /a!, whose block 3 is at 46
	dirD  = api.File{Ino: 5, Gen: 1} // /d, empty
)

// someDisk answers a disk that has a store with these.
func someDisk(t testing.TB) *disk.Disk {
	t.Helper()
	d := newDisk(t, 60)
	s := open(t, d)
	create(t, s, root, "a", api.KDir)
	create(t, s, dirA, "b", api.KFile)
	create(t, s, root, "a!", api.KFile)
	create(t, s, root, "d", api.KDir)
	write(t, s, fileB, 0, "first")
	write(t, s, fileB, 7, "last")
	write(t, s, fileC, 3, "c")
	wantOf(t, "some disk", s, []tree.Node{
		{Path: "/", File: root, Kind: api.KDir, Version: 3},
		{Path: "/a", File: dirA, Kind: api.KDir, Version: 2},
		{Path: "/a!", File: fileC, Kind: api.KFile, Version: 2, Blocks: [8]string{3: "c"}},
		{Path: "/a/b", File: fileB, Kind: api.KFile, Version: 3, Blocks: [8]string{0: "first", 7: "last"}},
		{Path: "/d", File: dirD, Kind: api.KDir, Version: 1},
	})
	return d
}

// fault is something wrong on some disk.
type fault struct {
	name string
	lay  func(t testing.TB, d *disk.Disk)
	want api.Errno // of Of
}

// faults answers some by the paths of the nodes that they are at.
func faults() []fault {
	junk := func(at int) func(testing.TB, *disk.Disk) {
		return func(t testing.TB, d *disk.Disk) { layJunk(t, d, at) }
	}
	free := func(ino int) func(testing.TB, *disk.Disk) {
		return func(t testing.TB, d *disk.Disk) { layInode(t, d, ino, 0, 1, 0) }
	}
	return []fault{
		{"the root's entries are none", junk(42), api.ErrForm},
		{"/a is gone", free(2), api.ErrGone},
		{"/a's entries are none", junk(43), api.ErrForm},
		{"/a! is another one", func(t testing.TB, d *disk.Disk) { layInode(t, d, 4, api.KFile, 2, 2, 0, 0, 0, 46) }, api.ErrGone},
		{"/a!'s block is none", junk(46), api.ErrForm},
		{"/a/b is gone", free(3), api.ErrGone},
		{"/a/b's first block is at no home", func(t testing.TB, d *disk.Disk) { layInode(t, d, 3, api.KFile, 1, 3, 60, 0, 0, 0, 0, 0, 0, 45) }, api.ErrArg},
		{"/a/b's first block is none", junk(44), api.ErrForm},
		{"/a/b's last block is none", junk(45), api.ErrForm},
		{"/d is gone", free(5), api.ErrGone},
		{"/d's entries are none", func(t testing.TB, d *disk.Disk) { layInode(t, d, 5, api.KDir, 1, 1, 44) }, api.ErrForm},
	}
}

// TestOfErrors is P12.1: none and the error of the store, whichever node has it.
func TestOfErrors(t *testing.T) {
	for _, x := range faults() {
		d := someDisk(t)
		x.lay(t, d)
		wantOfErr(t, x.name, open(t, d), x.want)
	}
}

// TestOfFirstError is P12.1 and R2: where several nodes have errors, that of the one with the least path.
func TestOfFirstError(t *testing.T) {
	l := faults()
	for i, x := range l {
		for _, y := range l[i+1:] {
			// Of one node, what is laid last counts: so they are laid the other way round.
			d := someDisk(t)
			y.lay(t, d)
			x.lay(t, d)
			wantOfErr(t, x.name+", "+y.name, open(t, d), x.want)
		}
	}
}

// TestOfRootGone is P12.1 of a disk that has no directory where the root is.
func TestOfRootGone(t *testing.T) {
	d := someDisk(t)
	layInode(t, d, 1, api.KDir, 2, 3, 42)
	wantOfErr(t, "another root", open(t, d), api.ErrGone)
	wantWalk(t, open(t, d), "/", root, api.KDir)
	wantNoWalk(t, open(t, d), "/a", api.ErrGone)
	layInode(t, d, 1, api.KFile, 1, 3, 46)
	wantNodes(t, "a file as root", of(t, open(t, d)), []tree.Node{{Path: "/", File: root, Kind: api.KFile, Version: 3, Blocks: [8]string{"c"}}})
	wantNoWalk(t, open(t, d), "/a", api.ErrKind)
}

// TestOtherKind is P12.1 and P12.2 where an entry says another kind than its file has: Of tells what the file is, Walk what the entry says.
func TestOtherKind(t *testing.T) {
	d := someDisk(t)
	layEntries(t, d, 42, api.Entry{Name: "a", File: dirA, Kind: api.KFile}, api.Entry{Name: "c", File: fileC, Kind: api.KDir})
	s := open(t, d)
	wantNodes(t, "other kinds", of(t, s), []tree.Node{
		{Path: "/", File: root, Kind: api.KDir, Version: 3},
		{Path: "/a", File: dirA, Kind: api.KDir, Version: 2},
		{Path: "/a/b", File: fileB, Kind: api.KFile, Version: 3, Blocks: [8]string{0: "first", 7: "last"}},
		{Path: "/c", File: fileC, Kind: api.KFile, Version: 2, Blocks: [8]string{3: "c"}},
	})
	wantWalk(t, s, "/a", dirA, api.KFile)
	wantWalk(t, s, "/a/b", fileB, api.KFile)
	wantWalk(t, s, "/c", fileC, api.KDir)
	wantNoWalk(t, s, "/c/x", api.ErrKind)
}

// TestOfRound is P12.1 of directories that lie in themselves: paths of eight names at most are told, and Of ends.
func TestOfRound(t *testing.T) {
	d := someDisk(t)
	layEntries(t, d, 42, api.Entry{Name: "a", File: dirA, Kind: api.KDir}, api.Entry{Name: "r", File: root, Kind: api.KDir})
	layEntries(t, d, 43, api.Entry{Name: "b", File: fileB, Kind: api.KFile}, api.Entry{Name: "r", File: root, Kind: api.KDir})
	s := open(t, d)
	var want []string
	var add func(path string, f api.File, depth int)
	add = func(path string, f api.File, depth int) {
		if depth > 8 {
			return
		}
		want = append(want, path)
		path = strings.TrimSuffix(path, "/")
		switch f {
		case root:
			add(path+"/a", dirA, depth+1)
			add(path+"/r", root, depth+1)
		case dirA:
			add(path+"/b", fileB, depth+1)
			add(path+"/r", root, depth+1)
		}
	}
	add("/", root, 0)
	slices.Sort(want)
	wantPaths(t, "round", s, want...)
	for _, n := range of(t, s) {
		wantWalk(t, s, n.Path, n.File, n.Kind)
	}
	wantNoWalk(t, s, strings.Repeat("/r", 9), api.ErrName)
}

// TestWalkErrors is P12.2 of disks on which something is wrong: the error of Lookup at the first name that it has one for; what lies elsewhere is found.
func TestWalkErrors(t *testing.T) {
	for _, x := range []struct {
		fault int
		want  map[string]api.Errno
	}{
		{0, map[string]api.Errno{"/": api.OK, "/a": api.ErrForm, "/no/x": api.ErrForm}},
		{1, map[string]api.Errno{"/a": api.OK, "/a/b": api.ErrGone, "/a/no/x": api.ErrGone, "/d": api.OK, "/no": api.ErrNone}},
		{2, map[string]api.Errno{"/a": api.OK, "/a/b": api.ErrForm, "/a/no/x": api.ErrForm, "/d": api.OK}},
		{3, map[string]api.Errno{"/a!": api.OK, "/a!/x": api.ErrGone, "/a/b": api.OK}},
		{4, map[string]api.Errno{"/a!": api.OK, "/a!/x": api.ErrKind, "/a/b": api.OK}},
		{5, map[string]api.Errno{"/a/b": api.OK, "/a/b/x": api.ErrGone}},
		{9, map[string]api.Errno{"/d": api.OK, "/d/x/y": api.ErrGone, "/a/b": api.OK}},
		{10, map[string]api.Errno{"/d": api.OK, "/d/x/y": api.ErrForm, "/a/b": api.OK}},
	} {
		d, f := someDisk(t), faults()[x.fault]
		f.lay(t, d)
		s := open(t, d)
		for path, want := range x.want {
			g, kind, e := tree.Walk(s, path)
			if e != want || (e != api.OK) != (g == api.File{}) || (e != api.OK) != (kind == 0) {
				t.Errorf("%s: Walk(%q): %v, kind %d, error %d, want error %d", f.name, path, g, kind, e, want)
			}
		}
	}
}

// TestJunk is R1: whatever a disk says, Of and Walk end, and tell nothing beside an error.
func TestJunk(t *testing.T) {
	r := rand.New(rand.NewSource(12))
	told := map[api.Errno]int{}
	for range 400 {
		d := someDisk(t)
		for range 1 + r.Intn(3) {
			at := 42 + r.Intn(5)
			switch r.Intn(4) {
			case 0:
				b := make([]byte, api.Sector)
				r.Read(b)
				lay(t, d, at, b)
			case 1:
				layInode(t, d, 1+r.Intn(6), 1+r.Intn(2), r.Intn(3), 7, 42+r.Intn(5), 42+r.Intn(20))
			default:
				layEntries(t, d, 42+r.Intn(2),
					api.Entry{Name: "a", File: api.File{Ino: 1 + r.Intn(6), Gen: 1}, Kind: 1 + r.Intn(2)},
					api.Entry{Name: "b", File: api.File{Ino: 1 + r.Intn(6), Gen: 1}, Kind: 1 + r.Intn(2)})
			}
		}
		s := open(t, d)
		l, e := tree.Of(s)
		told[e]++
		if e != api.OK && len(l) != 0 {
			t.Fatalf("error %d, and %d nodes", e, len(l))
		}
		if !slices.IsSorted(paths(l)) {
			t.Fatalf("%q", paths(l))
		}
		for _, n := range l {
			if f, _, e := tree.Walk(s, n.Path); f != n.File || e != api.OK {
				t.Fatalf("Walk(%q): %v, error %d, want %v", n.Path, f, e, n.File)
			}
		}
		for _, path := range []string{"/", "/a", "/b/a", "/a/b/a/b", "/no", "/a!"} {
			if f, kind, e := tree.Walk(s, path); e != api.OK && (f != api.File{} || kind != 0) {
				t.Fatalf("Walk(%q): error %d, and %v, %d", path, e, f, kind)
			}
		}
	}
	if told[api.OK] < 50 || told[api.ErrForm] < 50 || told[api.ErrGone] < 50 {
		t.Errorf("told %v", told)
	}
}
