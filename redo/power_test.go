package redo_test

import (
	"math/rand"
	"slices"
	"testing"

	"tenancy/api"
	"tenancy/disk"
	"tenancy/redo"
)

// world is a disk with a ring, its log, and what its homes may be when it is opened anew.
type world struct {
	t     testing.TB
	d     *disk.Disk
	n     int
	l     *redo.Log
	may   [][]string // behind each transaction that was written, from the last one on that lasts surely
	count int        // transactions, so that each one has bytes of its own
}

// newWorld answers a disk with a ring of n and its log.
func newWorld(t testing.TB, n, homes int) *world {
	t.Helper()
	d, l := filled(t, n, homes)
	w := &world{t: t, d: d, n: n, l: l, may: [][]string{sectors(t, d)[2+n:]}}
	w.wantNow()
	return w
}

// wantNow fails the test unless homes are as behind all that was written.
func (w *world) wantNow() {
	w.t.Helper()
	wantHomes(w.t, "homes", w.l, w.may[len(w.may)-1])
}

// write writes a transaction, such as no other one is.
func (w *world) write(at ...int) api.Errno {
	w.t.Helper()
	w.count++
	list := []api.Put{}
	for _, i := range at {
		p := put(i, w.count)
		p.Data[127], p.Data[60] = byte(w.count), byte(w.count>>8)
		list = append(list, p)
	}
	e := w.l.Write(list)
	if e == api.OK {
		w.may = append(w.may, with(w.may[len(w.may)-1], list))
	}
	w.wantNow()
	return e
}

// sync is a Sync, or a Checkpoint.
func (w *world) sync(call func() api.Errno) api.Errno {
	w.t.Helper()
	e := call()
	if e == api.OK {
		w.may = w.may[len(w.may)-1:]
	}
	w.wantNow()
	return e
}

// crash has the power go off, and opens the log anew, twice; it answers how many of the transactions that were not sure were lost.
func (w *world) crash(keep []int, torn int) int {
	w.t.Helper()
	w.d.Crash(keep, torn)
	s := homes(w.t, open(w.t, w.d, w.n))
	w.l = open(w.t, w.d, w.n)
	wantHomes(w.t, "opened twice", w.l, s)
	for i, may := range w.may {
		if slices.Equal(s, may) {
			lost := len(w.may) - 1 - i
			// What is read behind a crash is what lasts.
			w.may = w.may[i : i+1]
			return lost
		}
	}
	w.t.Fatalf("homes %q, which may be %d others", fronts(s), len(w.may))
	return 0
}

// some does what a number between 0 and 9 says: mostly a Write.
func (w *world) some(r *rand.Rand, k int) api.Errno {
	w.t.Helper()
	switch {
	case k == 0:
		return w.sync(w.l.Checkpoint)
	case k < 3:
		return w.sync(w.l.Sync)
	}
	e := w.write(r.Perm(w.l.Homes())[:1+r.Intn(min(3, w.l.Homes()))]...)
	if e != api.ErrFull || k < 6 {
		return e
	}
	return w.sync(w.l.Checkpoint)
}

// subsets answers each way in which n writes may be kept.
func subsets(n int) [][]int {
	l := [][]int{}
	for x := range 1 << n {
		keep := make([]int, n)
		for i := range keep {
			keep[i] = x >> i & 1
		}
		l = append(l, keep)
	}
	return l
}

// TestPowerOnce is P6.5: of each number of steps of a script, wherever the power goes off, whatever lasts and is torn.
func TestPowerOnce(t *testing.T) {
	script := func(w *world) bool {
		return w.write(0, 2) == api.OK && w.write(1) == api.OK && w.sync(w.l.Sync) == api.OK &&
			w.write(2) == api.OK && w.sync(w.l.Checkpoint) == api.OK &&
			w.write(1, 2) == api.OK && w.write(0) == api.OK && w.write(1) == api.OK && w.sync(w.l.Checkpoint) == api.OK
	}
	lost := map[int]int{}
	for fuse := 0; ; fuse++ {
		w := newWorld(t, 8, 3)
		wantErr(t, "Fuse", w.d.Fuse(fuse), api.OK)
		if script(w) {
			break
		}
		for _, keep := range subsets(len(w.d.Waits())) {
			for _, torn := range []int{0, 1, 2, 3, 7, 8, 9, 10, 60, 115, 117, 121, 123, 127} {
				w := newWorld(t, 8, 3)
				wantErr(t, "Fuse", w.d.Fuse(fuse), api.OK)
				script(w)
				lost[w.crash(keep, torn)]++
			}
		}
	}
	for n := range 4 {
		if lost[n] == 0 {
			t.Errorf("lost %v: each number up to 3 may be", lost)
		}
	}
}

// TestPowerTwice is P6.5: what lies in the ring behind a piece that a first life lost never comes again, whatever a second life writes in that piece's place, and whatever lasts of both.
func TestPowerTwice(t *testing.T) {
	for _, second := range []string{"writes", "writes, and a Checkpoint", "a Checkpoint, and writes", "nothing"} {
		for _, first := range subsets(6) {
			for _, keep := range subsets(4) {
				for _, torn := range []int{0, 5, 70} {
					w := newWorld(t, 9, 3)
					w.write(0)
					w.write(1)
					w.write(2)
					w.crash(first, torn)
					switch second {
					case "writes":
						w.write(1)
						w.write(0)
					case "writes, and a Checkpoint":
						w.write(1)
						wantErr(t, "Checkpoint", w.sync(w.l.Checkpoint), api.OK)
						w.write(0)
						w.write(2)
					case "a Checkpoint, and writes":
						wantErr(t, "Checkpoint", w.sync(w.l.Checkpoint), api.OK)
						w.write(2)
						w.write(0)
					}
					w.crash(keep, torn)
					w.write(2)
					w.crash([]int{1, 1}, 0)
				}
			}
		}
	}
}

// TestPowerOverAndOver is P6.5: the power goes off in life behind life, anywhere, and the elder lives' pieces lie about in the ring.
func TestPowerOverAndOver(t *testing.T) {
	r := rand.New(rand.NewSource(65))
	lost, calls := map[int]int{}, map[api.Errno]int{}
	for range 150 {
		w := newWorld(t, 2+r.Intn(14), 1+r.Intn(4))
		for range 50 {
			wantErr(t, "Fuse", w.d.Fuse(r.Intn(30)), api.OK)
			e := api.OK
			for e != api.ErrDead {
				e = w.some(r, r.Intn(10))
				calls[e]++
			}
			lost[w.crash(someKeep(r, len(w.d.Waits())), r.Intn(160))]++
		}
	}
	if lost[0] < 100 || lost[1] < 100 || lost[2] < 30 || lost[3] < 10 || calls[api.ErrFull] < 100 {
		t.Errorf("lost %v, calls %v", lost, calls)
	}
}

// someKeep answers what is kept of n writes: all, none, or some.
func someKeep(r *rand.Rand, n int) []int {
	keep := make([]int, n)
	kind := r.Intn(4)
	for i := range keep {
		switch kind {
		case 0:
			keep[i] = 1
		case 1, 2:
			keep[i] = r.Intn(2)
		}
	}
	return keep
}

// TestPowerWithoutCrash is P6.5: a log that is opened anew while its elder one's writes wait still has them, and those it writes itself come behind them.
func TestPowerWithoutCrash(t *testing.T) {
	for _, checkpoint := range []bool{false, true} {
		for _, keep := range subsets(6) {
			w := newWorld(t, 9, 3)
			w.write(0)
			w.write(1)
			w.l = open(t, w.d, w.n)
			w.wantNow()
			if checkpoint {
				wantErr(t, "Checkpoint", w.sync(w.l.Checkpoint), api.OK)
			}
			w.write(2)
			w.crash(keep, 0)
		}
	}
}

// TestPowerInCheckpoint is P6.5: a Checkpoint in which the power goes off, anywhere, changes no home that was synced ahead; nor does the next one, which does all anew.
func TestPowerInCheckpoint(t *testing.T) {
	for fuse := range 8 {
		for again := range 8 {
			for _, keep := range subsets(3) {
				for _, torn := range []int{0, 6, 99} {
					w := newWorld(t, 9, 3)
					w.write(0, 1)
					w.write(2, 1)
					wantErr(t, "Sync", w.sync(w.l.Sync), api.OK)
					for _, n := range []int{fuse, again} {
						wantErr(t, "Fuse", w.d.Fuse(n), api.OK)
						w.sync(w.l.Checkpoint)
						if n := w.crash(keep, torn); n != 0 {
							t.Fatalf("%d lost", n)
						}
					}
					wantErr(t, "Checkpoint", w.sync(w.l.Checkpoint), api.OK)
					w.crash(nil, 0)
				}
			}
		}
	}
}
