package tree_test

import (
	"maps"
	"slices"
	"strings"
	"testing"

	"tenancy/api"
	"tenancy/disk"
	"tenancy/fstore"
	"tenancy/tree"
)

const ring = 20

var root = api.File{Ino: 1, Gen: 1}

// wantErr fails the test unless a call told this.
func wantErr(t testing.TB, call string, got, want api.Errno) {
	t.Helper()
	if got != want {
		t.Fatalf("%s: error %d, want %d", call, got, want)
	}
}

// newDisk answers a disk that has so many homes.
func newDisk(t testing.TB, homes int) *disk.Disk {
	t.Helper()
	d, e := disk.New(2 + ring + homes)
	wantErr(t, "disk.New", e, api.OK)
	return d
}

// open answers the store of a disk.
func open(t testing.TB, d *disk.Disk) *fstore.Store {
	t.Helper()
	s, e := fstore.Open(d, ring)
	wantErr(t, "fstore.Open", e, api.OK)
	return s
}

// newStore answers a store with a root alone.
func newStore(t testing.TB) *fstore.Store {
	t.Helper()
	return open(t, newDisk(t, 1000))
}

// create makes a file or a directory.
func create(t testing.TB, s *fstore.Store, in api.File, word string, kind int) api.File {
	t.Helper()
	f, e := s.Create(in, word, kind)
	wantErr(t, "Create "+word, e, api.OK)
	return f
}

// write writes a block.
func write(t testing.TB, s *fstore.Store, f api.File, at int, data string) {
	t.Helper()
	_, e := s.Write(f, at, data)
	wantErr(t, "Write", e, api.OK)
}

// of answers all nodes of a store that has no error.
func of(t testing.TB, s *fstore.Store) []tree.Node {
	t.Helper()
	l, e := tree.Of(s)
	wantErr(t, "Of", e, api.OK)
	return l
}

// wantNodes fails the test unless nodes are these.
func wantNodes(t testing.TB, name string, got, want []tree.Node) {
	t.Helper()
	if !slices.Equal(got, want) {
		t.Fatalf("%s:\n%+v, want\n%+v", name, got, want)
	}
}

// wantOf fails the test unless a store has these nodes, and Walk finds each.
func wantOf(t testing.TB, name string, s *fstore.Store, want []tree.Node) {
	t.Helper()
	wantNodes(t, name, of(t, s), want)
	for _, n := range want {
		wantWalk(t, s, n.Path, n.File, n.Kind)
	}
}

// wantOfErr fails the test unless Of tells an error alone.
func wantOfErr(t testing.TB, name string, s *fstore.Store, want api.Errno) {
	t.Helper()
	if l, e := tree.Of(s); len(l) != 0 || e != want {
		t.Errorf("%s: %d nodes, error %d, want none and error %d", name, len(l), e, want)
	}
}

// wantWalk fails the test unless a path names this.
func wantWalk(t testing.TB, s *fstore.Store, path string, f api.File, kind int) {
	t.Helper()
	if g, k, e := tree.Walk(s, path); g != f || k != kind || e != api.OK {
		t.Errorf("Walk(%q): %v, kind %d, error %d, want %v, kind %d", path, g, k, e, f, kind)
	}
}

// wantNoWalk fails the test unless Walk tells an error alone.
func wantNoWalk(t testing.TB, s *fstore.Store, path string, want api.Errno) {
	t.Helper()
	if f, kind, e := tree.Walk(s, path); f != (api.File{}) || kind != 0 || e != want {
		t.Errorf("Walk(%.200q): %v, kind %d, error %d, want none and error %d", path, f, kind, e, want)
	}
}

// paths answers those of nodes.
func paths(l []tree.Node) []string {
	var p []string
	for _, n := range l {
		p = append(p, n.Path)
	}
	return p
}

// wantPaths fails the test unless a store's nodes have these paths.
func wantPaths(t testing.TB, name string, s *fstore.Store, want ...string) {
	t.Helper()
	if l := paths(of(t, s)); !slices.Equal(l, want) {
		t.Errorf("%s: %q, want %q", name, l, want)
	}
}

// thing is what a model has of a file or a directory.
type thing struct {
	file    api.File
	kind    int
	version uint64
	blocks  [8]string
	in      map[string]*thing // of a directory
}

// newThing answers one that was just made.
func newThing(f api.File, kind int, version uint64) *thing {
	return &thing{file: f, kind: kind, version: version, in: map[string]*thing{}}
}

// nodes answers a thing's nodes and those of all below it, where names are those on the way to it.
func (x *thing) nodes(names ...string) []tree.Node {
	if len(names) > 8 {
		return nil
	}
	l := []tree.Node{{Path: "/" + strings.Join(names, "/"), File: x.file, Kind: x.kind, Version: x.version, Blocks: x.blocks}}
	for word, y := range x.in {
		l = append(l, y.nodes(slices.Concat(names, []string{word})...)...)
	}
	slices.SortFunc(l, func(a, b tree.Node) int { return strings.Compare(a.Path, b.Path) })
	return l
}

// all answers a thing and all below it, however deep, in one order always.
func (x *thing) all() []*thing {
	l := []*thing{x}
	for _, word := range slices.Sorted(maps.Keys(x.in)) {
		l = append(l, x.in[word].all()...)
	}
	return l
}
