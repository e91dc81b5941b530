package fstore_test

import (
	"fmt"
	"math/rand"
	"slices"
	"strings"
	"testing"

	"tenancy/api"
)

// subsets answers each way in which n writes may be kept.
func subsets(n int) [][]int {
	l := [][]int{}
	for x := range 1 << n {
		keep := make([]int, n)
		for i := range keep {
			keep[i] = x >> i & 1
		}
		l = append(l, keep)
	}
	return l
}

// someKeep answers what is kept of n writes: all, none, all but one, or some.
func someKeep(r *rand.Rand, n int) []int {
	keep := make([]int, n)
	kind := r.Intn(5)
	for i := range keep {
		keep[i] = []int{1, 1, r.Intn(2), r.Intn(2), 0}[kind]
	}
	if kind == 1 && n > 0 {
		keep[r.Intn(n)] = 0
	}
	return keep
}

// script answers calls, all of which are done, of each kind that changes something.
func script() []op {
	at := func(ino, gen int) api.File { return api.File{Ino: ino, Gen: gen} }
	var l []op
	for i, s := range []string{"a", "b", "c", "d", "e", "f"} {
		l = append(l, op{call: "Create", f: root, s: s, at: []int{api.KFile, api.KDir}[i%2]})
	}
	l = append(l,
		op{call: "Write", f: at(2, 1), at: 0, s: "zero"},
		op{call: "Write", f: at(2, 1), at: 0, s: "nought"},
		op{call: "Write", f: at(4, 1), at: 7, s: strings.Repeat("7", 64)},
		op{call: "Rename", f: root, s: "c", g: root, u: "a"},
		op{call: "SetRecord", s: strings.Repeat("1", 128)},
		op{call: "Create", f: at(3, 1), s: "c", at: api.KFile},
		op{call: "Write", f: at(2, 2), at: 3, s: "three"},
		op{call: "Rename", f: at(3, 1), s: "c", g: at(5, 1), u: "x"},
		op{call: "Rename", f: root, s: "b", g: at(5, 1), u: "y"},
		op{call: "Write", f: at(2, 2), at: 3, s: ""},
		op{call: "Truncate", f: at(4, 1)},
		op{call: "Remove", f: at(5, 1), s: "y"},
		op{call: "Rename", f: root, s: "a", g: at(5, 1), u: "x"},
		op{call: "SetRecord", s: strings.Repeat("2", 128)},
		op{call: "Remove", f: root, s: "e"},
	)
	return l
}

// states answers what is ahead of each call, and behind all of them.
func states(t testing.TB, m *model, l []op) []*model {
	t.Helper()
	all := []*model{m}
	for _, o := range l {
		a, after := o.onModel(m)
		wantErr(t, o.call, a.err, api.OK)
		m = after
		all = append(all, m)
	}
	return all
}

// until does calls up to the one in which the power goes off, and answers that; how many there are, if it does not.
func (w *world) until(l []op) int {
	w.t.Helper()
	for i, o := range l {
		if a := o.onStore(w.s); a.err != api.OK {
			if !a.is(answer{err: api.ErrDead}) {
				w.t.Fatalf("%+v: %v", o, a)
			}
			return i
		}
	}
	return len(l)
}

// behind has a world go on behind a crash: with, or without, the change under way; it tells which.
func (w *world) behind(without, with *model) bool {
	w.t.Helper()
	now := homes(w.t, w.d, w.n)
	done := !slices.Equal(now, without.homes)
	w.m = without
	if done {
		w.m = with
	}
	wantHomes(w.t, "behind a crash", now, w.m.homes)
	w.reopen()
	return done
}

// TestPower is P11.7: of each step of a script, wherever the power goes off, and whatever lasts or is torn: all that was answered OK is there, with, or without, the change under way, and goes on.
func TestPower(t *testing.T) {
	l := script()
	all := states(t, newModel(60), l)
	r := rand.New(rand.NewSource(117))
	seen := map[string]int{}
	for fuse := 0; ; fuse++ {
		w := newWorld(t, 20, 60)
		wantErr(t, "Fuse", w.d.Fuse(fuse), api.OK)
		if w.until(l) == len(l) {
			break
		}
		for k := range 12 {
			w := newWorld(t, 20, 60)
			wantErr(t, "Fuse", w.d.Fuse(fuse), api.OK)
			i := w.until(l)
			keep := slices.Repeat([]int{k & 1}, len(w.d.Waits()))
			torn := 0
			if k > 1 {
				keep, torn = someKeep(r, len(keep)), r.Intn(160)
			}
			w.d.Crash(keep, torn)
			done := w.behind(all[i], all[i+1])
			seen[fmt.Sprintf("%s %t", l[i].call, done)]++
			if done {
				i++
			}
			if n := w.until(l[i:]); n < len(l)-i {
				t.Fatalf("behind a crash %+v is not done", l[i+n])
			}
			wantHomes(t, "behind all", homes(t, w.d, w.n), all[len(l)].homes)
		}
	}
	for _, call := range []string{"Create", "Remove", "Rename", "Write", "Truncate", "SetRecord"} {
		if seen[call+" true"] == 0 || seen[call+" false"] == 0 {
			t.Errorf("seen %v: each of both may be of %s", seen, call)
		}
	}
}

// TestPowerOverAndOver is P11.7: the power goes off in life behind life, anywhere.
func TestPowerOverAndOver(t *testing.T) {
	r := rand.New(rand.NewSource(711))
	seen := map[bool]int{}
	for round := range 25 {
		w := newWorld(t, 20+r.Intn(2)*r.Intn(30), []int{46, 56, 80, 100}[round%4])
		for range 25 {
			wantErr(t, "Fuse", w.d.Fuse(r.Intn(120)), api.OK)
			small := []int{2, 10, 30}[r.Intn(3)]
			for {
				o := w.m.some(r, small)
				want, after := o.onModel(w.m)
				a := o.onStore(w.s)
				if a.err == api.ErrDead {
					w.d.Crash(someKeep(r, len(w.d.Waits())), r.Intn(2)*r.Intn(128))
					seen[w.behind(w.m, after)]++
					break
				}
				if !a.is(want) {
					t.Fatalf("%+v: %v, want %v", o, a, want)
				}
				w.m = after
			}
		}
	}
	if seen[true] < 10 || seen[false] < 100 {
		t.Errorf("seen %v", seen)
	}
}

// TestDead is P11.2 and R2: behind an error of the disk nothing is changed, and nothing is done any more, also with the power on again; what is read is as behind all that was answered OK.
func TestDead(t *testing.T) {
	l := script()
	all := states(t, newModel(60), l)
	r := rand.New(rand.NewSource(118))
	for fuse := 0; ; fuse++ {
		w := newWorld(t, 20, 60)
		wantErr(t, "Fuse", w.d.Fuse(fuse), api.OK)
		i := w.until(l)
		if i == len(l) {
			break
		}
		w.wantTold("without power", all[i])
		w.d.Crash(someKeep(r, len(w.d.Waits())), r.Intn(160))
		w.wantTold("with power", all[i])
		before := sectors(t, w.d)
		list := []op{l[i],
			{call: "SetRecord", s: all[i].homes[0]},
			{call: "SetRecord", s: strings.Repeat("9", 128)},
			{call: "Create", f: root, s: "new", at: api.KDir},
		}
		for _, e := range all[i].nodes[1].entries {
			list = append(list, op{call: "Rename", f: root, s: e.Name, g: root, u: "new"})
			if e.Kind == api.KFile {
				list = append(list, op{call: "Remove", f: root, s: e.Name}, op{call: "Truncate", f: e.File}, op{call: "Write", f: e.File, s: "new"})
			}
		}
		for _, o := range list {
			if a := o.onStore(w.s); !a.is(answer{err: api.ErrDead}) {
				t.Fatalf("a fuse of %d: %+v behind an error: %v", fuse, o, a)
			}
		}
		if len(w.d.Waits()) > 0 || !slices.Equal(sectors(t, w.d), before) {
			t.Fatalf("a fuse of %d: something was written behind an error", fuse)
		}
		w.wantTold("behind an error", all[i])
	}
}

// TestGone is P11.7: what was removed is ErrGone for ever, though its number is another one's.
func TestGone(t *testing.T) {
	w := newWorld(t, 20, 80)
	var gone []api.File
	for k := range 12 {
		kind := []int{api.KFile, api.KDir}[k%2]
		gone = append(gone, w.create(root, "a", kind), w.create(root, "b", kind))
		w.rename(root, "a", root, "b", api.OK)
		w.remove(root, "b", api.OK)
		w.create(root, "a", api.KFile)
		w.reopen()
		for _, f := range gone {
			w.wantDo(op{call: "Attr", f: f}, api.ErrGone)
			w.wantDo(op{call: "List", f: f}, api.ErrGone)
			w.wantDo(op{call: "Lookup", f: f, s: "a"}, api.ErrGone)
			w.wantDo(op{call: "Read", f: f}, api.ErrGone)
			w.wantDo(op{call: "Write", f: f, s: "x"}, api.ErrGone)
			w.wantDo(op{call: "Truncate", f: f}, api.ErrGone)
			w.wantDo(op{call: "Create", f: f, s: "a", at: api.KFile}, api.ErrGone)
			w.remove(f, "a", api.ErrGone)
			w.rename(f, "a", root, "b", api.ErrGone)
			w.rename(root, "a", f, "b", api.ErrGone)
		}
		w.remove(root, "a", api.OK)
	}
}
