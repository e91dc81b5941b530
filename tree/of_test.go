package tree_test

import (
	"fmt"
	"math"
	"slices"
	"strings"
	"testing"
	"unsafe"

	"tenancy/api"
	"tenancy/fstore"
	"tenancy/tree"
)

// TestOfRoot is P12.1 of a new store.
func TestOfRoot(t *testing.T) {
	s := newStore(t)
	wantOf(t, "a new store", s, []tree.Node{{Path: "/", File: root, Kind: api.KDir}})
	create(t, s, root, "a", api.KFile)
	wantPaths(t, "a root with a", s, "/", "/a")
}

// TestOfFields is P12.1: of each node its Path, its File, its Kind, its Version, and of a file its blocks.
func TestOfFields(t *testing.T) {
	s := newStore(t)
	create(t, s, root, "gone", api.KFile)
	a := create(t, s, root, "a", api.KFile)
	wantErr(t, "Remove", s.Remove(root, "gone"), api.OK)
	d := create(t, s, root, "d", api.KDir)
	e := create(t, s, d, "e", api.KDir)
	x := create(t, s, e, "x", api.KFile)
	y := create(t, s, d, "y", api.KFile)
	write(t, s, a, 3, "hello")
	write(t, s, a, 0, "\x00")
	write(t, s, x, 7, strings.Repeat("\xff", 64))
	write(t, s, y, 2, "y")
	write(t, s, y, 2, "")
	wantOf(t, "all", s, []tree.Node{
		{Path: "/", File: root, Kind: 1, Version: 4},
		{Path: "/a", File: api.File{Ino: 3, Gen: 1}, Kind: 2, Version: 3, Blocks: [8]string{0: "\x00", 3: "hello"}},
		{Path: "/d", File: api.File{Ino: 2, Gen: 2}, Kind: 1, Version: 3},
		{Path: "/d/e", File: api.File{Ino: 4, Gen: 1}, Kind: 1, Version: 2},
		{Path: "/d/e/x", File: api.File{Ino: 5, Gen: 1}, Kind: 2, Version: 2, Blocks: [8]string{7: strings.Repeat("\xff", 64)}},
		{Path: "/d/y", File: api.File{Ino: 6, Gen: 1}, Kind: 2, Version: 3},
	})
	_, err := s.Truncate(a)
	wantErr(t, "Truncate", err, api.OK)
	wantErr(t, "Rename", s.Rename(root, "d", root, "0"), api.OK)
	wantErr(t, "Rename", s.Rename(e, "x", d, "y"), api.OK)
	wantOf(t, "moved", s, []tree.Node{
		{Path: "/", File: root, Kind: 1, Version: 5},
		{Path: "/0", File: d, Kind: 1, Version: 4},
		{Path: "/0/e", File: e, Kind: 1, Version: 3},
		{Path: "/0/y", File: x, Kind: 2, Version: 2, Blocks: [8]string{7: strings.Repeat("\xff", 64)}},
		{Path: "/a", File: a, Kind: 2, Version: 4},
	})
}

// TestOfEachBlock is P12.1: each of a file's eight blocks is told at its place, whichever others are empty.
func TestOfEachBlock(t *testing.T) {
	s := newStore(t)
	f := create(t, s, root, "f", api.KFile)
	for some := range 1 << 8 {
		_, e := s.Truncate(f)
		wantErr(t, "Truncate", e, api.OK)
		var want [8]string
		for i := range want {
			if some>>i&1 == 1 {
				want[i] = fmt.Sprintf("block %d of %d", i, some)
				write(t, s, f, i, want[i])
			}
		}
		a, e := s.Attr(f)
		wantErr(t, "Attr", e, api.OK)
		if l := of(t, s); len(l) != 2 || l[1].Blocks != want || l[1].Version != a.Version {
			t.Fatalf("%+v, want %q, Version %d", l, want, a.Version)
		}
	}
}

// TestOfOrder is P12.1: by paths, byte by byte, so that what stands below a directory may stand behind names that are greater than the directory's.
func TestOfOrder(t *testing.T) {
	s := newStore(t)
	for _, word := range []string{"b", "a~", "a0", "a.", "a-", "a!", "a", "A", "~", "!"} {
		d := create(t, s, root, word, api.KDir)
		if strings.HasPrefix(word, "a") {
			create(t, s, d, "x", api.KFile)
			create(t, s, d, "!", api.KDir)
		}
	}
	wantPaths(t, "names about the mark", s, "/", "/!", "/A", "/a", "/a!", "/a!/!", "/a!/x", "/a-", "/a-/!", "/a-/x", "/a.", "/a./!", "/a./x", "/a/!", "/a/x", "/a0", "/a0/!", "/a0/x", "/a~", "/a~/!", "/a~/x", "/b", "/~")
	if l := paths(of(t, s)); !slices.IsSorted(l) {
		t.Errorf("%q", l)
	}
}

// TestOfEachChar is P12.1 of the order of names of each character that one may have, and of what is below.
func TestOfEachChar(t *testing.T) {
	s := newStore(t)
	var chars []string
	for c := byte(33); c <= 126; c++ {
		if c != '/' {
			chars = append(chars, string([]byte{c}))
		}
	}
	for part := range slices.Chunk(chars, 12) {
		want := []string{"/", "/x", "/x/in"}
		create(t, s, create(t, s, root, "x", api.KDir), "in", api.KFile)
		for _, c := range part {
			create(t, s, create(t, s, root, "x"+c, api.KDir), "in", api.KFile)
			want = append(want, "/x"+c, "/x"+c+"/in")
		}
		slices.Sort(want)
		wantPaths(t, "x and a character", s, want...)
		for _, p := range want {
			if d, _, _ := tree.Walk(s, p); strings.Count(p, "/") == 1 && p != "/" {
				wantErr(t, "Remove", s.Remove(d, "in"), api.OK)
				wantErr(t, "Remove", s.Remove(root, p[1:]), api.OK)
			}
		}
	}
}

// TestOfDepth is P12.1: what has nine names and more above it is left out, and nothing else is.
func TestOfDepth(t *testing.T) {
	s := newStore(t)
	long := "0123456789abcdef"
	in, path := root, ""
	want := []string{"/", "/z", "/z/z"}
	z := create(t, s, root, "z", api.KDir)
	create(t, s, z, "z", api.KFile)
	for depth := 1; depth <= 12; depth++ {
		d := create(t, s, in, long, api.KDir)
		f := create(t, s, in, "f", api.KFile)
		write(t, s, f, 1, "deep")
		if depth <= 8 {
			want = append(want, path+"/"+long, path+"/f")
			wantWalk(t, s, path+"/"+long, d, api.KDir)
			wantWalk(t, s, path+"/f", f, api.KFile)
		} else {
			wantNoWalk(t, s, path+"/"+long, api.ErrName)
			wantNoWalk(t, s, path+"/f", api.ErrName)
		}
		in, path = d, path+"/"+long
		slices.Sort(want)
		wantPaths(t, "deep directories", s, want...)
	}
	// As soon as they lie less deep they are told.
	top, _, e := tree.Walk(s, "/"+long)
	wantErr(t, "Walk", e, api.OK)
	wantErr(t, "Rename", s.Rename(top, long, root, "y"), api.OK)
	ninth := "/y" + strings.Repeat("/"+long, 7)
	l := paths(of(t, s))
	if !slices.Contains(l, ninth) || !slices.Contains(l, "/y"+strings.Repeat("/"+long, 6)+"/f") || slices.Contains(l, ninth+"/f") {
		t.Errorf("%q", l)
	}
}

// TestOfFull is P12.1 of as many files, and entries, as may be.
func TestOfFull(t *testing.T) {
	s := newStore(t)
	m := newThing(root, api.KDir, 0)
	d := newThing(create(t, s, root, "d", api.KDir), api.KDir, 1)
	m.in["d"], m.version = d, 1
	for i := range 38 {
		in, word := m, fmt.Sprintf("file-%011d", i*7919)
		if i >= 23 {
			in = d
		}
		x := newThing(create(t, s, in.file, word, api.KFile), api.KFile, 9)
		for k := range x.blocks {
			x.blocks[k] = strings.Repeat(string(rune('a'+k)), 64-i)
			write(t, s, x.file, k, x.blocks[k])
		}
		in.in[word] = x
		in.version++
	}
	if _, e := s.Create(d.file, "one more", api.KFile); e == api.OK {
		t.Fatal("40 files are not all")
	}
	wantOf(t, "40 files", s, m.nodes())
	if l := of(t, s); len(l) != 40 || len(m.in) != 24 {
		t.Errorf("%d nodes, %d entries", len(l), len(m.in))
	}
}

// TestOfGreatest is P12.1 of the greatest Version and Gen that a store may have.
func TestOfGreatest(t *testing.T) {
	d := newDisk(t, 60)
	f := create(t, open(t, d), root, "f", api.KFile)
	layInode(t, d, f.Ino, api.KFile, math.MaxInt32, api.MaxCount)
	layEntries(t, d, 42, api.Entry{Name: "f", File: api.File{Ino: f.Ino, Gen: math.MaxInt32}, Kind: api.KFile})
	wantOf(t, "the greatest", open(t, d), []tree.Node{
		{Path: "/", File: root, Kind: api.KDir, Version: 1},
		{Path: "/f", File: api.File{Ino: f.Ino, Gen: 1<<31 - 1}, Kind: api.KFile, Version: 1<<40 - 1},
	})
}

// TestOfChangesNothing is R3: to ask changes nothing, and an answer is nobody else's.
func TestOfChangesNothing(t *testing.T) {
	d := newDisk(t, 60)
	s := open(t, d)
	f := create(t, s, create(t, s, root, "d", api.KDir), "f", api.KFile)
	write(t, s, f, 5, "five")
	want, before := slices.Clone(of(t, s)), sectors(t, d)
	for range 3 {
		l := of(t, s)
		wantNodes(t, "again", l, want)
		clear(l)
		_ = append(l[:0], tree.Node{Path: "/new"})
	}
	wantWalk(t, s, "/d/f", f, api.KFile)
	if !slices.Equal(sectors(t, d), before) || len(d.Waits()) != 0 {
		t.Error("something was written")
	}
	one, other := of(t, s), of(t, s)
	for i := range one[1:] {
		if unsafe.StringData(one[1+i].Path) == unsafe.StringData(other[1+i].Path) {
			t.Errorf("two answers share %q", one[1+i].Path)
		}
	}
}

// TestOfWithoutPower is P12.1: what is only read is told without power, too; behind a crash it is the same again.
func TestOfWithoutPower(t *testing.T) {
	d := newDisk(t, 60)
	s := open(t, d)
	f := create(t, s, root, "f", api.KFile)
	write(t, s, f, 5, "five")
	want := of(t, s)
	wantErr(t, "Fuse", d.Fuse(0), api.OK)
	_, e := s.Write(f, 5, "six")
	wantErr(t, "Write", e, api.ErrDead)
	wantOf(t, "without power", s, want)
	d.Crash(nil, 0)
	wantOf(t, "behind a crash", open(t, d), want)
}

// TestOfNoStore is P12.1: none and ErrNil of no store.
func TestOfNoStore(t *testing.T) {
	for _, s := range []*fstore.Store{nil, {}, new(fstore.Store)} {
		wantOfErr(t, "no store", s, api.ErrNil)
	}
}
