package dir_test

import (
	"math/rand"
	"slices"
	"strings"
	"testing"

	"tenancy/api"
	"tenancy/dir"
)

// named answers entries of these names.
func named(names ...string) []api.Entry {
	l := make([]api.Entry, len(names))
	for i, s := range names {
		l[i] = entry(s, i)
	}
	return l
}

// place answers how many entries stand ahead of a name, and whether one has it, gone through one by one.
func place(l []api.Entry, s string) (int, bool) {
	n, ok := 0, false
	for _, e := range l {
		if e.Name < s {
			n++
		}
		ok = ok || e.Name == s
	}
	return n, ok
}

// wantFind fails the test unless Find tells so of a name.
func wantFind(t *testing.T, l []api.Entry, s string, at int, there bool) {
	t.Helper()
	if i, ok := dir.Find(l, s); i != at || ok != there {
		t.Fatalf("Find(%s, %.40q): %d, %t, want %d, %t", brief(l), s, i, ok, at, there)
	}
}

// roomy answers a copy of entries with others behind it that must stay, and a function that tells whether all of it is as it was.
func roomy(l []api.Entry) ([]api.Entry, func() bool) {
	all := slices.Concat(l, []api.Entry{full, full, full})
	kept := slices.Clone(all)
	return all[:len(l)], func() bool { return slices.Equal(all, kept) }
}

// wantPut fails the test unless Put answers these entries, in new memory, and leaves what it was handed.
func wantPut(t *testing.T, l []api.Entry, e api.Entry, want []api.Entry) {
	t.Helper()
	wantList(t, "Put of "+e.Name, l, want, func(l []api.Entry) []api.Entry { return dir.Put(l, e) })
}

// wantDrop fails the test unless Drop answers these entries, in new memory, and leaves what it was handed.
func wantDrop(t *testing.T, l []api.Entry, s string, want []api.Entry) {
	t.Helper()
	wantList(t, "Drop of "+s, l, want, func(l []api.Entry) []api.Entry { return dir.Drop(l, s) })
}

// wantList fails the test unless a call answers entries, shares none with what it was handed, and leaves that, whatever room is behind it.
func wantList(t *testing.T, call string, l, want []api.Entry, do func([]api.Entry) []api.Entry) {
	t.Helper()
	for _, room := range []bool{false, true} {
		in, stays := roomy(l)
		if !room {
			in = slices.Clip(in)
		}
		got, again := do(in), do(in)
		if !slices.Equal(got, want) {
			t.Fatalf("%.40s: of %s: %s, want %s", call, brief(l), brief(got), brief(want))
		}
		if !stays() {
			t.Fatalf("%.40s: changed %s", call, brief(l))
		}
		clear(got)
		clear(got[:cap(got)])
		if !stays() || !slices.Equal(again, want) {
			t.Fatalf("%.40s: an answer to %s shares memory", call, brief(l))
		}
		clear(in)
		if !slices.Equal(again, want) {
			t.Fatalf("%.40s: an answer has memory of %s", call, brief(l))
		}
	}
}

// TestFind is P9.3: where an entry of this name stands, and where it would.
func TestFind(t *testing.T) {
	l := named("b", "d", "f")
	for i, s := range []string{"a", "b", "c", "d", "e", "f", "g"} {
		wantFind(t, l, s, i/2, i%2 == 1)
	}
	wantFind(t, l, "", 0, false)
	wantFind(t, l, "B", 0, false)
	wantFind(t, l, "b!", 1, false)
	wantFind(t, l, "bb", 1, false)
	wantFind(t, l, "b\x00", 1, false)
	wantFind(t, l, "\xff", 3, false)
	wantFind(t, l, "\u00e9", 3, false)
	wantFind(t, l, strings.Repeat("d", 1<<16), 2, false)
	wantFind(t, nil, "a", 0, false)
	wantFind(t, []api.Entry{}, "", 0, false)
}

// TestFindEachCount is P9.3 of each entry of each count of them, and of texts just ahead of it and behind it.
func TestFindEachCount(t *testing.T) {
	for n := range 60 {
		l := counted(n)
		for i, e := range l {
			wantFind(t, l, e.Name, i, true)
			wantFind(t, l, e.Name+"!", i+1, false)
			wantFind(t, l, e.Name+"\x00", i+1, false)
			wantFind(t, l, e.Name[:4]+string([]byte{e.Name[4] - 1})+"~", i, false)
		}
		wantFind(t, l, "m", 0, false)
		wantFind(t, l, "o", n, false)
	}
}

// TestPut is P9.3: an entry comes to its place, or in place of the one of its name.
func TestPut(t *testing.T) {
	b, d, x := entry("b", 0), entry("d", 1), api.Entry{File: api.File{Ino: 30, Gen: 9}, Kind: api.KFile}
	as := func(s string) api.Entry { x.Name = s; return x }
	l := []api.Entry{b, d}
	wantPut(t, l, as("a"), []api.Entry{as("a"), b, d})
	wantPut(t, l, as("b"), []api.Entry{as("b"), d})
	wantPut(t, l, as("c"), []api.Entry{b, as("c"), d})
	wantPut(t, l, as("d"), []api.Entry{b, as("d")})
	wantPut(t, l, as("e"), []api.Entry{b, d, as("e")})
	wantPut(t, l, as("B"), []api.Entry{as("B"), b, d})
	wantPut(t, l, as("bb"), []api.Entry{b, as("bb"), d})
	wantPut(t, l, b, l)
	wantPut(t, l, d, l)
	wantPut(t, nil, as("a"), []api.Entry{as("a")})
	wantPut(t, []api.Entry{}, as("a"), []api.Entry{as("a")})
}

// TestPutWhatever is P9.3: whether an entry is right, or there is room for one more in a directory, does not matter.
func TestPutWhatever(t *testing.T) {
	l := counted(24)
	wantPut(t, l, entry("m", 1), slices.Insert(slices.Clone(l), 0, entry("m", 1)))
	wantPut(t, l, entry("o", 1), append(slices.Clone(l), entry("o", 1)))
	wantPut(t, l, entry("", 1), slices.Insert(slices.Clone(l), 0, entry("", 1)))
	wantPut(t, l, api.Entry{}, slices.Insert(slices.Clone(l), 0, api.Entry{}))
	bad := api.Entry{Name: l[7].Name, File: api.File{Ino: -1, Gen: -1}, Kind: 9}
	wantPut(t, l, bad, with(l, 7, bad))
	bad.Name = "\xff"
	wantPut(t, l, bad, append(slices.Clone(l), bad))
}

// TestPutEachPlace is P9.3 at each place of each count of entries: between two, and in place of one.
func TestPutEachPlace(t *testing.T) {
	for n := range 30 {
		l := counted(n)
		for at := range n + 1 {
			e := entry("m", 50)
			if at > 0 {
				e.Name = l[at-1].Name + "!"
			}
			wantPut(t, l, e, slices.Insert(slices.Clone(l), at, e))
			if at < n {
				e.Name = l[at].Name
				wantPut(t, l, e, with(l, at, e))
			}
		}
	}
}

// TestDrop is P9.3: the one of this name is left out; where there is none, none.
func TestDrop(t *testing.T) {
	b, d, f := entry("b", 0), entry("d", 1), entry("f", 2)
	l := []api.Entry{b, d, f}
	wantDrop(t, l, "b", []api.Entry{d, f})
	wantDrop(t, l, "d", []api.Entry{b, f})
	wantDrop(t, l, "f", []api.Entry{b, d})
	for _, s := range []string{"", "a", "B", "bb", "c", "e", "g", "\x00", "\xff", "d\x00", strings.Repeat("d", 1<<16)} {
		wantDrop(t, l, s, l)
	}
	wantDrop(t, []api.Entry{b}, "b", nil)
	wantDrop(t, []api.Entry{b}, "a", []api.Entry{b})
	wantDrop(t, nil, "a", nil)
	wantDrop(t, []api.Entry{}, "", nil)
}

// TestDropEachPlace is P9.3 of each entry of each count of them.
func TestDropEachPlace(t *testing.T) {
	for n := range 30 {
		l := counted(n)
		for at, e := range l {
			wantDrop(t, l, e.Name, slices.Delete(slices.Clone(l), at, at+1))
			wantDrop(t, l, e.Name+"!", l)
		}
		wantDrop(t, l, "m", l)
		wantDrop(t, l, "o", l)
	}
}

// TestListByChance is P9.3 of entries that are put and dropped by chance, against ones that are kept by their names.
func TestListByChance(t *testing.T) {
	r := rand.New(rand.NewSource(3))
	kept := map[string]api.Entry{}
	var l []api.Entry
	for i := range 20000 {
		s := string([]byte{"!Aa~"[r.Intn(4)], "09az"[r.Intn(4)], "-.z"[r.Intn(3)]})[:1+r.Intn(3)]
		at, ok := place(l, s)
		wantFind(t, l, s, at, ok)
		if _, there := kept[s]; ok != there {
			t.Fatalf("step %d: %q is there: %t, want %t", i, s, ok, there)
		}
		if r.Intn(2) == 0 {
			kept[s] = entry(s, i)
			l = dir.Put(l, kept[s])
		} else {
			delete(kept, s)
			l = dir.Drop(l, s)
		}
		if len(l) != len(kept) || !slices.IsSortedFunc(l, func(a, b api.Entry) int { return strings.Compare(a.Name, b.Name) }) {
			t.Fatalf("step %d: %+v, want %+v", i, l, kept)
		}
		for _, e := range l {
			if e != kept[e.Name] {
				t.Fatalf("step %d: %+v, want %+v", i, e, kept[e.Name])
			}
		}
	}
}

// TestListBranches is R3: two lists made of one have nothing in common, whichever was made first.
func TestListBranches(t *testing.T) {
	l := named("b", "d")
	for range 8 {
		x, y := dir.Put(l, entry("x", 1)), dir.Put(l, entry("y", 2))
		if !slices.Equal(x, append(slices.Clone(l), entry("x", 1))) || !slices.Equal(y, append(slices.Clone(l), entry("y", 2))) {
			t.Fatalf("of %+v: %+v and %+v", l, x, y)
		}
		less := dir.Drop(x, "x")
		z := dir.Put(less, entry("z", 3))
		if x[len(x)-1] != entry("x", 1) || z[len(z)-1] != entry("z", 3) {
			t.Fatalf("%+v was changed by way of %+v", x, z)
		}
		l = dir.Put(l, entry("b"+strings.Repeat("b", len(l)), len(l)))
	}
}

// TestListOfWhatDoesNotRise is R1 and R3: entries whose names do not rise are no reason to panic, or to change them.
func TestListOfWhatDoesNotRise(t *testing.T) {
	r := rand.New(rand.NewSource(4))
	for range 20000 {
		l := make([]api.Entry, r.Intn(8))
		for i := range l {
			l[i] = entry("abcde"[r.Intn(5):][:1], i)
		}
		in, stays := roomy(l)
		s := "abcde"[r.Intn(5):][:1]
		if i, _ := dir.Find(in, s); i < 0 || i > len(l) {
			t.Fatalf("Find(%+v, %q): %d", l, s, i)
		}
		clear(dir.Put(in, entry(s, 9)))
		clear(dir.Drop(in, s))
		if !stays() {
			t.Fatalf("%+v was changed", l)
		}
	}
}
