package fstore_test

import (
	"encoding/hex"
	"fmt"
	"math"
	"strings"
	"testing"

	"tenancy/api"
	"tenancy/fstore"
)

// create makes a file or directory that can be made.
func (w *world) create(in api.File, s string, kind int) api.File {
	w.t.Helper()
	return w.wantDo(op{call: "Create", f: in, s: s, at: kind}, api.OK).file
}

// write answers what a Write of a block tells.
func (w *world) write(f api.File, at int, s string, want api.Errno) answer {
	w.t.Helper()
	return w.wantDo(op{call: "Write", f: f, at: at, s: s}, want)
}

// rename is a Rename that tells this.
func (w *world) rename(a api.File, s string, b api.File, u string, want api.Errno) {
	w.t.Helper()
	w.wantDo(op{call: "Rename", f: a, s: s, g: b, u: u}, want)
}

// remove is a Remove that tells this.
func (w *world) remove(in api.File, s string, want api.Errno) {
	w.t.Helper()
	w.wantDo(op{call: "Remove", f: in, s: s}, want)
}

// TestExample is the chapter's: a created, removed, and created anew.
func TestExample(t *testing.T) {
	for _, kind := range []int{api.KFile, api.KDir} {
		w := newWorld(t, 20, 46)
		for gen := 1; gen < 5; gen++ {
			if f := w.create(root, "a", kind); f != (api.File{Ino: 2, Gen: gen}) {
				t.Fatalf("a is %v", f)
			}
			w.remove(root, "a", api.OK)
		}
	}
}

// TestRoot is P11.1: the root is Ino 1, Gen 1: a directory, of Version 0 at first.
func TestRoot(t *testing.T) {
	if f := fstore.Root(); f != root {
		t.Errorf("the root is %v", f)
	}
	w := newWorld(t, 20, 46)
	if a, e := w.s.Attr(fstore.Root()); a != (api.Attr{Kind: api.KDir}) || e != api.OK {
		t.Errorf("the root is %v, error %d", a, e)
	}
}

// TestSpelt is P11.1: each home's bytes, written out by hand.
func TestSpelt(t *testing.T) {
	w := newWorld(t, 20, 52)
	spelt := func(name string, want map[int]string) {
		t.Helper()
		for i, b := range homes(t, w.d, 20) {
			if x := strings.TrimRight(hex.EncodeToString([]byte(b)), "0"); x != strings.ReplaceAll(want[i], " ", "") {
				t.Fatalf("%s: home %d is %s, want %s", name, i, x, want[i])
			}
		}
	}
	spelt("a new store", map[int]string{1: "ff ff ff ff ff c", 2: "40 00 00 00 8"})
	a, e := w.s.Create(root, "a", api.KFile)
	d, e2 := w.s.Create(root, "d", api.KDir)
	v, e3 := w.s.Write(a, 3, "hello")
	e4 := w.s.SetRecord([]byte(strings.Repeat("\x12", 128)))
	if a != (api.File{Ino: 2, Gen: 1}) || d != (api.File{Ino: 3, Gen: 1}) || v != 2 || e+e2+e3+e4 != api.OK {
		t.Fatal(a, d, v, e, e2, e3, e4)
	}
	want := map[int]string{
		0:  strings.Repeat("12", 128),
		1:  "ff ff ff ff ff f",
		2:  "40 00 00 00 80 00 00 00 01 01 5",
		3:  "80 00 00 00 80 00 00 00 01 00 00 00 00 00 15 8",
		4:  "40 00 00 00 80 00 00 00 00 8",
		42: "08 40 00 00 00 66 1" + strings.Repeat("0", 31) + "86 00 00 00 05 64",
		43: "05 68 65 6c 6c 6f",
	}
	spelt("two of them", want)
	// What is freed stays as it was, but for its Inode, of which the Gen stays.
	if e := w.s.Remove(root, "a"); e != api.OK {
		t.Fatal(e)
	}
	want[1] = "ff ff ff ff ff e"
	want[2] = "40 00 00 00 80 00 00 00 01 81 5"
	want[3] = "00 00 00 00 8"
	want[42] = "08 60 00 00 00 56 4"
	spelt("a is removed", want)
	if e := w.s.Remove(root, "d"); e != api.OK {
		t.Fatal(e)
	}
	want[1] = "ff ff ff ff ff c"
	want[2] = "40 00 00 00 80 00 00 00 02"
	want[4] = "00 00 00 00 8"
	spelt("d is removed", want)
}

// bad are texts that are no names.
var bad = []string{"", ".", "..", "/", "a/b", "a b", "\x7f", "\x00", "ä", strings.Repeat("x", 17)}

// someWorld answers a store with a file a, a directory d that has a file x and a directory e, an empty directory f, and a file and a directory that are gone.
func someWorld(t testing.TB) (w *world, a, d, e, gone, goneDir api.File) {
	t.Helper()
	w = newWorld(t, 60, 60)
	a = w.create(root, "a", api.KFile)
	d = w.create(root, "d", api.KDir)
	w.create(d, "x", api.KFile)
	e = w.create(d, "e", api.KDir)
	w.create(root, "f", api.KDir)
	gone = w.create(root, "gone", api.KFile)
	goneDir = w.create(root, "goneDir", api.KDir)
	w.remove(root, "gone", api.OK)
	w.remove(root, "goneDir", api.OK)
	w.write(a, 2, "two", api.OK)
	return w, a, d, e, gone, goneDir
}

// TestOrder is P11.3 to P11.6: where several errors apply, the one that is named first.
func TestOrder(t *testing.T) {
	w, a, d, e, gone, goneDir := someWorld(t)
	big := strings.Repeat("x", 65)
	for _, x := range []struct {
		o    op
		want api.Errno
	}{
		{op{call: "Lookup", f: gone, s: "/"}, api.ErrName},
		{op{call: "Lookup", f: a, s: "/"}, api.ErrName},
		{op{call: "Lookup", f: gone, s: "no"}, api.ErrGone},
		{op{call: "Lookup", f: a, s: "a"}, api.ErrKind},
		{op{call: "Lookup", f: d, s: "a"}, api.ErrNone},
		{op{call: "Lookup", f: goneDir, s: "a"}, api.ErrGone},
		{op{call: "List", f: goneDir}, api.ErrGone},
		{op{call: "List", f: gone}, api.ErrGone},
		{op{call: "List", f: a}, api.ErrKind},
		{op{call: "Attr", f: gone}, api.ErrGone},
		{op{call: "Read", f: goneDir, at: 8}, api.ErrArg},
		{op{call: "Read", f: d, at: -1}, api.ErrArg},
		{op{call: "Read", f: goneDir, at: 7}, api.ErrGone},
		{op{call: "Read", f: d, at: 0}, api.ErrKind},
		{op{call: "Create", f: gone, s: "/", at: 3}, api.ErrName},
		{op{call: "Create", f: gone, s: "a", at: 0}, api.ErrArg},
		{op{call: "Create", f: a, s: "a", at: 3}, api.ErrArg},
		{op{call: "Create", f: goneDir, s: "a", at: 1}, api.ErrGone},
		{op{call: "Create", f: a, s: "a", at: 2}, api.ErrKind},
		{op{call: "Create", f: root, s: "a", at: 1}, api.ErrThere},
		{op{call: "Create", f: root, s: "d", at: 2}, api.ErrThere},
		{op{call: "Remove", f: gone, s: "/"}, api.ErrName},
		{op{call: "Remove", f: goneDir, s: "a"}, api.ErrGone},
		{op{call: "Remove", f: a, s: "a"}, api.ErrKind},
		{op{call: "Remove", f: root, s: "x"}, api.ErrNone},
		{op{call: "Remove", f: root, s: "d"}, api.ErrNotEmpty},
		{op{call: "Rename", f: gone, s: "a", g: gone, u: ".."}, api.ErrName},
		{op{call: "Rename", f: gone, s: ".", g: gone, u: "a"}, api.ErrName},
		{op{call: "Rename", f: gone, s: "a", g: a, u: "a"}, api.ErrGone},
		{op{call: "Rename", f: a, s: "a", g: gone, u: "a"}, api.ErrKind},
		{op{call: "Rename", f: root, s: "no", g: goneDir, u: "a"}, api.ErrGone},
		{op{call: "Rename", f: root, s: "no", g: a, u: "a"}, api.ErrKind},
		{op{call: "Rename", f: root, s: "no", g: root, u: "no"}, api.ErrNone},
		{op{call: "Rename", f: root, s: "no", g: d, u: "x"}, api.ErrNone},
		{op{call: "Rename", f: root, s: "d", g: root, u: "d"}, api.OK},
		{op{call: "Rename", f: root, s: "a", g: root, u: "a"}, api.OK},
		{op{call: "Rename", f: root, s: "d", g: d, u: "x"}, api.ErrArg},
		{op{call: "Rename", f: root, s: "d", g: d, u: "e"}, api.ErrArg},
		{op{call: "Rename", f: root, s: "d", g: e, u: "d"}, api.ErrArg},
		{op{call: "Rename", f: root, s: "d", g: root, u: "a"}, api.ErrKind},
		{op{call: "Rename", f: root, s: "a", g: root, u: "d"}, api.ErrKind},
		{op{call: "Rename", f: d, s: "x", g: root, u: "d"}, api.ErrKind},
		{op{call: "Rename", f: d, s: "e", g: root, u: "d"}, api.ErrNotEmpty},
		{op{call: "Rename", f: root, s: "f", g: root, u: "d"}, api.ErrNotEmpty},
		{op{call: "Write", f: goneDir, at: 8, s: big}, api.ErrArg},
		{op{call: "Write", f: d, at: -1, s: big}, api.ErrArg},
		{op{call: "Write", f: gone, at: 7, s: big}, api.ErrBig},
		{op{call: "Write", f: d, at: 0, s: big}, api.ErrBig},
		{op{call: "Write", f: gone, at: 0, s: "x"}, api.ErrGone},
		{op{call: "Write", f: d, at: 7, s: "x"}, api.ErrKind},
		{op{call: "Truncate", f: gone}, api.ErrGone},
		{op{call: "Truncate", f: goneDir}, api.ErrGone},
		{op{call: "Truncate", f: d}, api.ErrKind},
		{op{call: "SetRecord", s: strings.Repeat("x", 127)}, api.ErrArg},
		{op{call: "SetRecord", s: ""}, api.ErrArg},
	} {
		w.wantDo(x.o, x.want)
	}
	w.wantAll()
}

// TestProducts is P11.3 to P11.6: all calls with all of many files, names, blocks and kinds, against the model.
func TestProducts(t *testing.T) {
	_, a, d, e, gone, goneDir := someWorld(t)
	files := []api.File{root, a, d, e, gone, goneDir, {}, {Ino: 1, Gen: 2}, {Ino: 1}, {Ino: 2, Gen: 2}, {Gen: 1}, {Ino: -1, Gen: 1}, {Ino: 0, Gen: math.MaxInt}, {Ino: 40}, {Ino: 40, Gen: 1}, {Ino: 41, Gen: 1}, {Ino: 41}, {Ino: 42}, {Ino: 1 + 1<<32, Gen: 1}, {Ino: 1, Gen: 1 + 1<<32}, {Ino: math.MinInt, Gen: math.MinInt}, {Ino: math.MaxInt, Gen: math.MaxInt}}
	names := []string{"a", "d", "x", "e", "f", "new", "/"}
	numbers := []int{0, 1, 2, 3, 7, 8, -1, 9, 1 << 32, 1<<32 + 1, math.MaxInt, math.MinInt}
	var all []op
	for _, f := range files {
		all = append(all, op{call: "List", f: f}, op{call: "Attr", f: f}, op{call: "Truncate", f: f})
		for _, s := range append(names, bad...) {
			all = append(all, op{call: "Lookup", f: f, s: s}, op{call: "Remove", f: f, s: s}, op{call: "Rename", f: f, s: s, g: root, u: s}, op{call: "Rename", f: root, s: "a", g: f, u: s})
			for _, at := range numbers {
				all = append(all, op{call: "Create", f: f, s: s, at: at})
			}
		}
		for _, at := range numbers {
			all = append(all, op{call: "Read", f: f, at: at}, op{call: "Write", f: f, at: at, s: "new"}, op{call: "Write", f: f, at: at})
		}
	}
	for _, f := range files[:7] {
		for _, g := range files[:7] {
			for _, s := range names {
				for _, u := range names {
					all = append(all, op{call: "Rename", f: f, s: s, g: g, u: u})
				}
			}
		}
	}
	w, _, _, _, _, _ := someWorld(t)
	for _, o := range all {
		if m := w.m; w.do(o).err == api.OK && m != w.m {
			w, _, _, _, _, _ = someWorld(t)
		}
	}
}

// TestVersions is P11.2 and P11.4 to P11.6: with a change a file's Version is one more; that of what is moved, and of what lies about, stays.
func TestVersions(t *testing.T) {
	w := newWorld(t, 20, 80)
	want := func(name string, versions map[api.File]uint64) {
		t.Helper()
		for f, v := range versions {
			if a, e := w.s.Attr(f); a.Version != v || e != api.OK {
				t.Fatalf("%s: %v has Version %d, error %d, want %d", name, f, a.Version, e, v)
			}
		}
	}
	a := w.create(root, "a", api.KFile)
	d := w.create(root, "d", api.KDir)
	b := w.create(d, "b", api.KFile)
	want("Create", map[api.File]uint64{root: 2, a: 1, d: 2, b: 1})
	for i, v := range []uint64{2, 3, 4, 5} {
		if x := w.write(a, 3, []string{"x", "x", "", ""}[i], api.OK); x.version != v {
			t.Fatalf("Version %d, want %d", x.version, v)
		}
	}
	if x := w.wantDo(op{call: "Truncate", f: a}, api.OK); x.version != 6 {
		t.Fatalf("Version %d, want 6", x.version)
	}
	want("Write and Truncate", map[api.File]uint64{root: 2, a: 6, d: 2, b: 1})
	w.rename(root, "a", root, "c", api.OK)
	want("Rename in one", map[api.File]uint64{root: 3, a: 6, d: 2, b: 1})
	w.rename(root, "c", d, "c", api.OK)
	want("Rename to another one", map[api.File]uint64{root: 4, a: 6, d: 3, b: 1})
	w.rename(d, "c", d, "b", api.OK)
	want("Rename over another one", map[api.File]uint64{root: 4, a: 6, d: 4})
	w.rename(d, "b", d, "b", api.OK)
	w.wantDo(op{call: "SetRecord", s: strings.Repeat("r", 128)}, api.OK)
	want("nothing", map[api.File]uint64{root: 4, a: 6, d: 4})
	w.remove(d, "b", api.OK)
	want("Remove", map[api.File]uint64{root: 4, d: 5})
}

// TestData is P11.1 and P11.6: blocks of each length, noughts among them, at each place; an empty one lies nowhere.
func TestData(t *testing.T) {
	w := newWorld(t, 20, 80)
	f := w.create(root, "a", api.KFile)
	w.create(root, "b", api.KFile)
	for n := range 67 {
		for _, s := range []string{strings.Repeat("\x00", n), strings.Repeat("\xff", n), fmt.Sprintf("%0*d", n, n)[:n]} {
			want := map[bool]api.Errno{false: api.OK, true: api.ErrBig}[n > 64]
			w.write(f, n%8, s, want)
			if b, _, e := w.s.Read(f, n%8); want == api.OK && (b != s || e != api.OK) {
				t.Fatalf("read %q, error %d, want %q", b, e, s)
			}
		}
	}
	for at := range 8 {
		w.write(f, at, "x", api.OK)
		for n := range at {
			w.write(f, n, map[bool]string{true: "", false: "y"}[n%2 == 0], api.OK)
		}
		w.wantAll()
	}
	w.wantDo(op{call: "Truncate", f: f}, api.OK)
	w.wantAll()
	if w.m.homes[1] != mapHome(w.m.taken) || w.m.taken[43] {
		t.Error("homes of a file without blocks are not free")
	}
}

// TestBigData is P11.6: however long it is.
func TestBigData(t *testing.T) {
	w := newWorld(t, 20, 46)
	f := w.create(root, "a", api.KFile)
	for _, n := range []int{65, 66, 127, 128, 255, 256, 257, 256 + 64, 1 << 16, 1<<16 + 1, 1 << 24} {
		if v, e := w.s.Write(f, 0, strings.Repeat("x", n)); v != 0 || e != api.ErrBig {
			t.Errorf("%d bytes: Version %d, error %d", n, v, e)
		}
	}
	w.wantAll()
}

// TestSetRecord is P11.6: home 0; of 128 bytes alone.
func TestSetRecord(t *testing.T) {
	w := newWorld(t, 20, 46)
	for n := range 260 {
		w.wantDo(op{call: "SetRecord", s: strings.Repeat("a", n)}, map[bool]api.Errno{true: api.OK, false: api.ErrArg}[n == 128])
	}
	for i := range 40 {
		w.wantDo(op{call: "SetRecord", s: strings.Repeat(string(rune('a'+i/2)), 128)}, api.OK)
		w.wantDo(op{call: "Record"}, api.OK)
	}
	w.d.Crash(nil, 0)
	w.reopen()
}

// TestNobodyElses is R3: what is handed in is neither changed nor kept, what is answered is new.
func TestNobodyElses(t *testing.T) {
	w, _, _, _, _, _ := someWorld(t)
	b := []byte(strings.Repeat("r", 128))
	if e := w.s.SetRecord(b); e != api.OK || string(b) != strings.Repeat("r", 128) {
		t.Fatal("SetRecord:", e, string(b))
	}
	clear(b)
	w.m.homes[0] = strings.Repeat("r", 128)
	for range 3 {
		w.wantTold("again", w.m)
		wantHomes(t, "again", homes(t, w.d, w.n), w.m.homes)
		b, _ := w.s.Record()
		clear(b)
		_ = append(b[:0], "new"...)
		l, _ := w.s.List(root)
		clear(l)
		_ = append(l[:0], api.Entry{Name: "new"})
	}
}

// TestNoStore is R1: of a Store that is nil, or that Open did not make, ErrNil, whatever it is asked.
func TestNoStore(t *testing.T) {
	for _, s := range []*fstore.Store{nil, {}, new(fstore.Store)} {
		for _, f := range []api.File{root, {}, {Ino: 2, Gen: 1}} {
			for _, text := range []string{"a", "", "/", strings.Repeat("x", 65), strings.Repeat("x", 128)} {
				for _, at := range []int{0, 1, 2, 3, -1, 8} {
					for _, call := range []string{"Lookup", "List", "Attr", "Read", "Create", "Remove", "Rename", "Write", "Truncate", "Record", "SetRecord"} {
						o := op{call: call, f: f, g: root, s: text, u: text, at: at}
						if a := o.onStore(s); !a.is(answer{err: api.ErrNil}) {
							t.Errorf("%+v of no store: %v", o, a)
						}
					}
				}
			}
		}
	}
}
