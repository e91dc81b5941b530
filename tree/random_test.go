package tree_test

import (
	"fmt"
	"maps"
	"math/rand"
	"slices"
	"testing"

	"tenancy/api"
	"tenancy/fstore"
	"tenancy/tree"
)

// someOf answers one of a list, or the zero one of an empty list.
func someOf[T any](r *rand.Rand, l []T) (x T) {
	if len(l) > 0 {
		x = l[r.Intn(len(l))]
	}
	return x
}

// dirs answers a model's directories.
func (x *thing) dirs() []*thing {
	return slices.DeleteFunc(x.all(), func(y *thing) bool { return y.kind != api.KDir })
}

// someName answers one of not too many names, mostly one that a directory has.
func (x *thing) someName(r *rand.Rand) string {
	if l := slices.Sorted(maps.Keys(x.in)); r.Intn(2) == 0 && len(l) > 0 {
		return someOf(r, l)
	}
	return someOf(r, []string{"a", "a!", "a.", "a0", "b", "b-", "c", "0123456789abcdef", "~", "!"})
}

// some does a call by chance, in a model, too, where it is OK.
func (x *thing) some(t testing.TB, r *rand.Rand, s *fstore.Store) {
	t.Helper()
	// Deeper ones are wanted more often than they come.
	d := x.dirs()[max(r.Intn(len(x.dirs())), r.Intn(len(x.dirs())))]
	word := d.someName(r)
	switch k := r.Intn(20); {
	case k < 8:
		kind := 1 + r.Intn(2)
		if f, e := s.Create(d.file, word, kind); e == api.OK {
			d.in[word] = newThing(f, kind, 1)
			d.version++
		}
	case k < 10:
		if s.Remove(d.file, word) == api.OK {
			delete(d.in, word)
			d.version++
		}
	case k < 14:
		b := someOf(r, x.dirs())
		x.rename(r, s, d, word, b, b.someName(r))
	case k < 19:
		if y := d.in[word]; y != nil {
			at, data := r.Intn(8), fmt.Sprint(r.Intn(1000))[r.Intn(2):]
			if v, e := s.Write(y.file, at, data); e == api.OK {
				y.blocks[at], y.version = data, v
			}
		}
	default:
		if y := d.in[word]; y != nil {
			if v, e := s.Truncate(y.file); e == api.OK {
				y.blocks, y.version = [8]string{}, v
			}
		}
	}
}

// rename does a Rename.
func (x *thing) rename(r *rand.Rand, s *fstore.Store, a *thing, word string, b *thing, other string) {
	if s.Rename(a.file, word, b.file, other) != api.OK || a == b && word == other {
		return
	}
	y := a.in[word]
	delete(a.in, word)
	b.in[other] = y
	a.version++
	if a != b {
		b.version++
	}
}

// wantNames fails the test unless Walk of names by chance tells what a model does.
func (x *thing) wantNames(t testing.TB, r *rand.Rand, s *fstore.Store) {
	t.Helper()
	path, want, at := "", api.OK, x
	for range 1 + r.Intn(8) {
		word := at.someName(r)
		path += "/" + word
		switch {
		case want != api.OK:
		case at.kind != api.KDir:
			want = api.ErrKind
		case at.in[word] == nil:
			want = api.ErrNone
		default:
			at = at.in[word]
		}
	}
	if want != api.OK {
		wantNoWalk(t, s, path, want)
		return
	}
	wantWalk(t, s, path, at.file, at.kind)
}

// TestModel is P12.1 to P12.4 of stores behind many calls, and opened anew, against a model.
func TestModel(t *testing.T) {
	r := rand.New(rand.NewSource(1))
	deepest, most := 0, 0
	for range 40 {
		d := newDisk(t, 130)
		s := open(t, d)
		m := newThing(root, api.KDir, 0)
		last := of(t, s)
		for range 60 {
			for range 1 + r.Intn(8) {
				m.some(t, r, s)
			}
			if r.Intn(10) == 0 {
				d.Crash(nil, 0)
				s = open(t, d)
			}
			want := m.nodes()
			wantOf(t, "by chance", s, want)
			wantDiff(t, last, want, naive(last, want)...)
			for range 5 {
				m.wantNames(t, r, s)
			}
			deepest = max(deepest, len(m.all())-len(want))
			most = max(most, len(want))
			last = of(t, s)
		}
	}
	if deepest == 0 || most < 30 {
		t.Errorf("too few: %d left out, %d nodes", deepest, most)
	}
}

// TestDiffOfChanges is P12.3 and P12.4: what a call changes is what Diff tells, and nothing else.
func TestDiffOfChanges(t *testing.T) {
	s := newStore(t)
	d := create(t, s, root, "d", api.KDir)
	f := create(t, s, d, "f", api.KFile)
	last := of(t, s)
	want := func(call string, e api.Errno, paths ...string) {
		t.Helper()
		wantErr(t, call, e, api.OK)
		next := of(t, s)
		wantDiff(t, last, next, paths...)
		last = next
	}
	want("nothing", api.OK)
	_, e := s.Create(d, "g", api.KFile)
	want("Create", e, "/d", "/d/g")
	_, e = s.Write(f, 0, "x")
	want("Write", e, "/d/f")
	_, e = s.Write(f, 0, "x")
	want("Write the same", e, "/d/f")
	_, e = s.Truncate(f)
	want("Truncate", e, "/d/f")
	want("Rename", s.Rename(d, "f", root, "f"), "/", "/d", "/d/f", "/f")
	want("Rename to itself", s.Rename(root, "f", root, "f"))
	want("Rename over one", s.Rename(root, "f", d, "g"), "/", "/d", "/d/g", "/f")
	want("Rename of a directory", s.Rename(root, "d", root, "e"), "/", "/d", "/d/g", "/e", "/e/g")
	want("Remove", s.Remove(api.File{Ino: 2, Gen: 1}, "g"), "/e", "/e/g")
	if l := tree.Diff(last, last); len(l) != 0 {
		t.Errorf("of a list with itself: %q", l)
	}
}
