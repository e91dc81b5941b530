package fstore_test

import (
	"math/rand"
	"strings"
	"testing"

	"tenancy/api"
	"tenancy/fstore"
)

// someJunk answers homes of which the Map and the Inodes are such, and all else is anything.
func someJunk(r *rand.Rand, m *model) []string {
	m = m.clone()
	for range 1 + r.Intn(12) {
		x := &m.nodes[1+r.Intn(40)]
		switch r.Intn(6) {
		case 0:
			x.kind = 1 + r.Intn(2)
		case 1:
			x.gen = r.Intn(3)
		default:
			x.kind = 1 + r.Intn(2)
			x.at[r.Intn(8)] = []int{r.Intn(4096), r.Intn(60), 42 + r.Intn(18), 0}[r.Intn(4)]
		}
	}
	if r.Intn(3) == 0 {
		m.taken[r.Intn(len(m.taken))] = r.Intn(2) == 0
	}
	all := append([]string{}, m.homes...)
	all[1] = mapHome(m.taken)
	for i, x := range m.nodes {
		if i > 0 && x.kind != 0 {
			all[1+i] = inodeHome(x)
		}
	}
	for range r.Intn(4) {
		b := make([]byte, 128)
		r.Read(b)
		all[42+r.Intn(len(all)-42)] = []string{string(b), string(make([]byte, 128)), all[42+r.Intn(8)]}[r.Intn(3)]
	}
	if r.Intn(3) == 0 {
		// A directory that lies in itself, or in one below it.
		f := api.File{Ino: 1 + r.Intn(4), Gen: 1}
		all[42+r.Intn(4)] = dirHome([]api.Entry{{Name: "n1", File: f, Kind: 1 + r.Intn(2)}, {Name: "n2", File: api.File{Ino: 3, Gen: 1}, Kind: api.KDir}})
	}
	return all
}

// TestJunk is R1: whatever a disk says of where all lies, each call ends, and none panics; with an error it tells nothing else.
func TestJunk(t *testing.T) {
	r := rand.New(rand.NewSource(1))
	told := map[api.Errno]int{}
	for range 600 {
		w := newWorld(t, 20, 60)
		for range 30 {
			_, w.m = w.m.some(r, 3).onModel(w.m)
		}
		d := newDisk(t, 2+20+60)
		layHomes(t, d, 20, someJunk(r, w.m))
		s, e := fstore.Open(d, 20)
		wantErr(t, "Open", e, api.OK)
		for range 40 {
			a := w.m.some(r, 10).onStore(s)
			told[a.err]++
			if a.err != api.OK && !a.is(answer{err: a.err}) {
				t.Fatalf("beside an error: %v", a)
			}
			if a.err < api.OK || a.err > api.ErrLimit {
				t.Fatalf("error %d", a.err)
			}
		}
	}
	if told[api.OK] < 1000 || told[api.ErrForm] < 100 {
		t.Errorf("told %v", told)
	}
}

// TestWrongBlocks is P11.1: a home that is no block's is not told as one, nor one that is no directory's, or none at all.
func TestWrongBlocks(t *testing.T) {
	right := blockHome("right")
	for name, wrong := range map[string]string{
		"noughts":          strings.Repeat("\x00", 128),
		"no bytes":         "\x00" + right[1:],
		"a byte less":      "\x04" + right[1:],
		"too many":         blockHome(strings.Repeat("x", 65)),
		"all it can be":    strings.Repeat("\xff", 128),
		"something behind": right[:127] + "\x01",
		"more behind it":   blockHome(strings.Repeat("x", 64))[:65] + "x" + right[66:],
	} {
		w := newWorld(t, 20, 60)
		f := w.create(root, "a", api.KFile)
		w.write(f, 0, "right", api.OK)
		all := append([]string{}, w.m.homes...)
		all[42], all[43] = wrong, wrong
		layHomes(t, w.d, 20, all)
		s := open(t, w.d, 20)
		for _, o := range []op{{call: "Read", f: f}, {call: "List", f: root}, {call: "Attr", f: root}, {call: "Lookup", f: root, s: "a"}, {call: "Create", f: root, s: "b", at: api.KFile}, {call: "Remove", f: root, s: "a"}} {
			if a := o.onStore(s); !a.is(answer{err: api.ErrForm}) {
				t.Errorf("%s: %+v: %v", name, o, a)
			}
		}
		// What asks for none of these is answered.
		if a := (op{call: "Attr", f: f}).onStore(s); !a.is(answer{attr: api.Attr{Kind: api.KFile, Version: 2, Blocks: 1}}) {
			t.Errorf("%s: %v", name, a)
		}
	}
	for _, at := range []int{60, 61, 4095} {
		m := newModel(60)
		m.nodes[1].entries = []api.Entry{{Name: "a", File: api.File{Ino: 2, Gen: 1}, Kind: api.KFile}}
		m.nodes[1].at[0], m.taken[42] = 42, true
		m.nodes[2] = node{kind: api.KFile, gen: 1, version: 1}
		all := m.spell().homes
		all[3] = inodeHome(node{kind: api.KFile, gen: 1, version: 1, at: [8]int{at}})
		d := newDisk(t, 2+20+60)
		layHomes(t, d, 20, all)
		s, f := open(t, d, 20), api.File{Ino: 2, Gen: 1}
		for _, o := range []op{{call: "Read", f: f}, {call: "Write", f: f, s: "x"}, {call: "Write", f: f}, {call: "Truncate", f: f}, {call: "Remove", f: root, s: "a"}} {
			if a := o.onStore(s); a.err == api.OK || !a.is(answer{err: a.err}) {
				t.Errorf("a block at home %d: %+v: %v", at, o, a)
			}
		}
		wantHomes(t, "a block nowhere", homes(t, d, 20), all)
	}
}
