package head_test

import (
	"math/rand"
	"testing"

	"tenancy/api"
	"tenancy/disk"
	"tenancy/head"
)

// crashes answers each way in which one write that waits may last: not, as a whole, or its first bytes.
func crashes() []func(*disk.Disk) {
	l := []func(*disk.Disk){
		func(d *disk.Disk) { d.Crash(nil, 0) },
		func(d *disk.Disk) { d.Crash([]int{1}, 0) },
	}
	for torn := 1; torn < 128; torn++ {
		l = append(l, func(d *disk.Disk) { d.Crash([]int{0}, torn) })
	}
	return l
}

// saves answers heads of rising Gens, behind one that has the Gen from; they go by turns to both places, as those of Gens that rise one by one.
func saves(from uint64, n int, r *rand.Rand) []head.Head {
	l := make([]head.Head, n)
	for i := range l {
		from += 1 + 2*uint64(r.Intn(2))
		l[i] = head.Head{Gen: from, Tail: r.Uint64() >> (24 + r.Intn(40)), Floor: r.Uint64() >> (40 + r.Intn(24))}
	}
	return l
}

// wantOneOf fails the test unless Load answers the last one that was OK (none, if none was), or the one in which the power went off.
func wantOneOf(t *testing.T, d *disk.Disk, last head.Head, some bool, broken head.Head) head.Head {
	t.Helper()
	h, ok, e := head.Load(d, 0)
	if e != api.OK || !(ok == some && h == last) && !(ok && h == broken) {
		t.Fatalf("%+v, %t, error %d, want %+v (%t) or %+v", h, ok, e, last, some, broken)
	}
	return h
}

// TestExample is the chapter's: Save of Gen 1, of Gen 2, a crash within that of Gen 3: Load has Gen 2 or 3.
func TestExample(t *testing.T) {
	seen := map[uint64]int{}
	for fuse := range 2 {
		for _, crash := range crashes() {
			d := newDisk(t, 2)
			save(t, d, 0, 1, head.Head{Gen: 1})
			save(t, d, 0, 1, head.Head{Gen: 2})
			wantErr(t, "Fuse", d.Fuse(fuse), api.OK)
			wantErr(t, "Save", head.Save(d, 0, 1, head.Head{Gen: 3}), api.ErrDead)
			crash(d)
			h := wantOneOf(t, d, head.Head{Gen: 2}, true, head.Head{Gen: 3})
			seen[h.Gen]++
		}
	}
	if seen[2] == 0 || seen[3] == 0 {
		t.Errorf("seen %v: each of both may be", seen)
	}
}

// TestPowerOnce is P5.3: of each number of Saves, wherever the power goes off, whatever lasts and is torn, on a disk of noughts, of junk, of elder heads.
func TestPowerOnce(t *testing.T) {
	r := rand.New(rand.NewSource(53))
	for kind := range 3 {
		for n := range 5 {
			for fuse := range 2 {
				for _, crash := range crashes() {
					d, last, some := elder(t, kind)
					l := saves(last.Gen, n+1, r)
					for _, h := range l[:n] {
						save(t, d, 0, 8, h)
						last, some = h, true
					}
					wantErr(t, "Fuse", d.Fuse(fuse), api.OK)
					wantErr(t, "Save", head.Save(d, 0, 8, l[n]), api.ErrDead)
					crash(d)
					wantOneOf(t, d, last, some, l[n])
				}
			}
		}
	}
}

// elder answers a disk as it was opened, its newest head, and whether it has one.
func elder(t *testing.T, kind int) (*disk.Disk, head.Head, bool) {
	t.Helper()
	h := head.Head{Gen: 6, Tail: 7, Floor: 2}
	switch kind {
	case 0:
		return newDisk(t, 2), head.Head{}, false
	case 1:
		return filled(t, 2), head.Head{}, false
	}
	d := newDisk(t, 2)
	save(t, d, 0, 7, head.Head{Gen: 5, Tail: 9, Floor: 1})
	save(t, d, 0, 7, h)
	return d, h, true
}

// TestPowerOverAndOver is P5.3: the power goes off in life behind life, in each by a new epoch; also Gens that were torn come again.
func TestPowerOverAndOver(t *testing.T) {
	r := rand.New(rand.NewSource(54))
	for range 60 {
		d := newDisk(t, 2)
		last, some := head.Head{}, false
		for epoch := uint64(1); epoch < 40; epoch++ {
			wantErr(t, "Fuse", d.Fuse(r.Intn(9)), api.OK)
			broken, e := last, api.OK
			for _, h := range saves(last.Gen, 6, r) {
				if e = head.Save(d, 0, epoch, h); e != api.OK {
					broken = h
					break
				}
				last, some = h, true
			}
			wantErr(t, "the last Save", e, api.ErrDead)
			d.Crash([]int{r.Intn(2)}, r.Intn(140))
			last = wantOneOf(t, d, last, some, broken)
			some = some || last == broken
		}
	}
}
