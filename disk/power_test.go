package disk_test

import (
	"math"
	"testing"

	"tenancy/api"
	"tenancy/disk"
)

// kill has the power go off.
func kill(t *testing.T, d *disk.Disk) {
	t.Helper()
	wantErr(t, "Fuse", d.Fuse(0), api.OK)
	wantErr(t, "the step at which the power goes off", d.Flush(), api.ErrDead)
	wantLive(t, "killed", d, false)
}

// wantLive fails the test unless the power is on, or off.
func wantLive(t *testing.T, name string, d *disk.Disk, want bool) {
	t.Helper()
	if d.Live() != want {
		t.Errorf("%s: live: %t", name, d.Live())
	}
}

// wantDead fails the test unless each step answers ErrDead, and changes nothing.
func wantDead(t *testing.T, name string, d *disk.Disk) {
	t.Helper()
	before := d.Waits()
	old, _ := d.Read(0)
	for range 3 {
		wantErr(t, name+", Write", d.Write(0, full(old[0]+1)), api.ErrDead)
		wantErr(t, name+", Flush", d.Flush(), api.ErrDead)
		wantErr(t, name+", Fuse", d.Fuse(5), api.ErrDead)
		wantErr(t, name+", Fuse below 0", d.Fuse(-1), api.ErrArg)
		wantErr(t, name+", Write of no sector", d.Write(-1, full(1)), api.ErrArg)
		wantErr(t, name+", Write of no bytes", d.Write(0, nil), api.ErrArg)
		wantLive(t, name, d, false)
	}
	wantRead(t, name, d, 0, old)
	wantWaits(t, name, d, before...)
}

// TestFuse is P3.3: behind n steps, Writes and Flushes, the power goes off.
func TestFuse(t *testing.T) {
	for n := range 7 {
		for _, flushes := range []int{0, 1, 2, 3} { // each such step is a Flush
			d := newDisk(t, 2)
			step := func(i int) api.Errno {
				if flushes > 0 && i%flushes == 0 {
					return d.Flush()
				}
				return d.Write(1, full(byte(i+1)))
			}
			wantErr(t, "Fuse", d.Fuse(n), api.OK)
			for i := range n {
				wantErr(t, "a step ahead", step(i), api.OK)
				wantLive(t, "a step ahead", d, true)
			}
			wantErr(t, "the step behind", step(n), api.ErrDead)
			wantDead(t, "behind", d)
		}
	}
}

// TestFuseEitherStep is P3.3 and P3.2: the step at which the power goes off does nothing.
func TestFuseEitherStep(t *testing.T) {
	for _, flush := range []bool{false, true} {
		d := newDisk(t, 2)
		d.Write(0, full(1))
		wantErr(t, "Fuse", d.Fuse(1), api.OK)
		wantErr(t, "Write", d.Write(1, full(2)), api.OK)
		wantLive(t, "ahead of the step", d, true)
		if flush {
			wantErr(t, "Flush", d.Flush(), api.ErrDead)
		} else {
			wantErr(t, "Write", d.Write(0, full(3)), api.ErrDead)
		}
		wantWaits(t, "both wait", d, 0, 1)
		wantRead(t, "the first write", d, 0, full(1))
		wantRead(t, "the second one", d, 1, full(2))
		wantDead(t, "behind", d)
		d.Crash(nil, 0)
		wantRead(t, "nothing lasts", d, 0, full(0))
		wantRead(t, "nothing lasts", d, 1, full(0))
	}
}

// TestFuseCounts is P3.3: what is no step, a Write that may not be among it, does not count.
func TestFuseCounts(t *testing.T) {
	d := newDisk(t, 2)
	wantErr(t, "Fuse", d.Fuse(1), api.OK)
	nothing := func() {
		for range 3 {
			wantErr(t, "Write of no sector", d.Write(2, full(1)), api.ErrArg)
			wantErr(t, "Write of 127 bytes", d.Write(0, full(1)[:127]), api.ErrArg)
			wantErr(t, "Fuse below 0", d.Fuse(-1), api.ErrArg)
			d.Read(0)
			d.Read(-1)
			d.Waits()
			d.Size()
			wantLive(t, "no step", d, true)
		}
	}
	nothing()
	wantErr(t, "Flush of nothing is a step", d.Flush(), api.OK)
	nothing()
	wantErr(t, "the step behind", d.Write(0, full(1)), api.ErrDead)
	wantDead(t, "behind", d)
}

// TestFuseWrong is P3.3: ErrArg below 0, also without power; and the fuse that is there is as it was.
func TestFuseWrong(t *testing.T) {
	d := newDisk(t, 1)
	for _, n := range []int{-1, -2, math.MinInt} {
		wantErr(t, "Fuse", d.Fuse(n), api.ErrArg)
		wantErr(t, "there is none", d.Flush(), api.OK)
	}
	wantErr(t, "Fuse", d.Fuse(1), api.OK)
	wantErr(t, "Fuse", d.Fuse(-1), api.ErrArg)
	wantErr(t, "a step ahead", d.Flush(), api.OK)
	wantErr(t, "the step behind", d.Flush(), api.ErrDead)
}

// TestLaterFuse is P3.3: a later one counts, be it shorter or longer, up to the step at which the power goes off.
func TestLaterFuse(t *testing.T) {
	for _, c := range [][2]int{{0, 2}, {1, 3}, {3, 1}, {5, 0}, {2, 2}, {math.MaxInt, 1}} {
		d := newDisk(t, 1)
		wantErr(t, "Fuse", d.Fuse(c[0]), api.OK)
		if c[0] > 0 {
			wantErr(t, "a step of the first one", d.Flush(), api.OK)
		}
		wantErr(t, "a later Fuse", d.Fuse(c[1]), api.OK)
		for range c[1] {
			wantErr(t, "a step ahead", d.Flush(), api.OK)
		}
		wantErr(t, "the step behind", d.Flush(), api.ErrDead)
		wantErr(t, "a Fuse without power", d.Fuse(1), api.ErrDead)
		wantDead(t, "behind", d)
	}
}

// TestNoFuse is P3.3: without one, or with one that is far away, the power is on.
func TestNoFuse(t *testing.T) {
	d := newDisk(t, 1)
	for range 2 {
		for range 5000 {
			if d.Write(0, full(1)) != api.OK || d.Flush() != api.OK || !d.Live() {
				t.Fatal("the power is off")
			}
		}
		wantErr(t, "Fuse", d.Fuse(math.MaxInt), api.OK)
	}
}

// TestCrash is P3.4: write by write what is kept lasts, in order.
func TestCrash(t *testing.T) {
	tests := []struct {
		name   string
		keep   []int
		torn   int
		first  []byte
		second []byte
	}{
		{"nil", nil, 0, full(1), full(2)},
		{"none", []int{0, 0, 0, 0}, 0, full(1), full(2)},
		{"all", []int{1, 1, 1, 1}, 0, full(5), full(6)},
		{"the first one", []int{1}, 0, full(3), full(2)},
		{"the second one", []int{0, 1}, 0, full(1), full(4)},
		{"the third one", []int{0, 0, 1}, 0, full(5), full(2)},
		{"the last one", []int{0, 0, 0, 1}, 0, full(1), full(6)},
		{"all but the third one", []int{1, 1, 0, 1}, 0, full(3), full(6)},
		{"numbers other than 1", []int{-1, 0, 2, math.MinInt}, 0, full(5), full(6)},
		{"more than wait", []int{0, 1, 0, 0, 1, 1}, 0, full(1), full(4)},
		{"torn on what lasts", nil, 1, full(1), front(1, 6, 2)},
		{"torn on a write that is kept", []int{1, 1}, 127, full(3), front(127, 6, 4)},
		{"torn, and kept", []int{0, 0, 0, 1}, 64, full(1), front(64, 6, 2)},
		{"torn, all kept", []int{1, 1, 1, 1, 1}, 5, full(5), front(5, 6, 4)},
		{"torn at 128, not kept", nil, 128, full(1), full(2)},
		{"torn at 128, kept", []int{0, 0, 0, 1}, 128, full(1), full(6)},
		{"torn below 0, not kept", nil, -1, full(1), full(2)},
		{"torn below 0, kept", []int{0, 0, 0, 1}, -127, full(1), full(6)},
		{"torn far away", []int{0, 0, 0, 1}, math.MaxInt, full(1), full(6)},
		{"torn far below", nil, math.MinInt, full(1), full(2)},
	}
	for _, c := range tests {
		for _, dead := range []bool{false, true} {
			d := newDisk(t, 3)
			d.Write(0, full(1))
			d.Write(1, full(2))
			d.Flush()
			for i, at := range []int{0, 1, 0, 1} {
				d.Write(at, full(byte(3+i)))
			}
			if dead {
				kill(t, d)
			}
			d.Crash(c.keep, c.torn)
			wantRead(t, c.name, d, 0, c.first)
			wantRead(t, c.name, d, 1, c.second)
			wantRead(t, c.name, d, 2, full(0))
			wantWaits(t, c.name, d)
			wantLive(t, c.name, d, true)
			d.Crash([]int{1, 1, 1, 1}, 3)
			wantRead(t, c.name+", crashed again", d, 0, c.first)
			wantRead(t, c.name+", crashed again", d, 1, c.second)
		}
	}
}

// TestTornOrder is P3.4: of a sector that is written twice, the torn write's end is that of the first one just if that is kept.
func TestTornOrder(t *testing.T) {
	for torn := 1; torn < api.Sector; torn++ {
		for kept := range 2 {
			d := newDisk(t, 1)
			d.Write(0, full(1))
			d.Flush()
			d.Write(0, full(2))
			d.Write(0, full(3))
			d.Crash([]int{kept}, torn)
			wantRead(t, "torn", d, 0, front(torn, 3, byte(1+kept)))
		}
	}
}

// TestCrashEachWay is P3.4: each choice of five writes of two sectors.
func TestCrashEachWay(t *testing.T) {
	places := []int{0, 1, 1, 0, 1}
	for set := range 1 << len(places) {
		d := newDisk(t, 2)
		keep := make([]int, len(places))
		want := [2]byte{}
		for i, at := range places {
			d.Write(at, full(byte(i+1)))
			if keep[i] = set >> i & 1; keep[i] == 1 {
				want[at] = byte(i + 1)
			}
		}
		d.Crash(keep, 0)
		wantRead(t, "kept", d, 0, full(want[0]))
		wantRead(t, "kept", d, 1, full(want[1]))
	}
}

// TestCrashOfNothing is P3.4: where nothing waits nothing is torn, and what lasts is there.
func TestCrashOfNothing(t *testing.T) {
	d := newDisk(t, 2)
	d.Crash([]int{1, 1}, 5)
	wantRead(t, "new", d, 0, full(0))
	d.Write(0, full(1))
	d.Flush()
	for range 2 {
		d.Crash([]int{1, 1}, 5)
		wantRead(t, "flushed", d, 0, full(1))
		wantRead(t, "not written", d, 1, full(0))
	}
}

// TestCrashNoFuse is P3.4: behind a crash there is no fuse, whether it burns still or the power is off.
func TestCrashNoFuse(t *testing.T) {
	for _, n := range []int{0, 1, 2} {
		d := newDisk(t, 1)
		wantErr(t, "Fuse", d.Fuse(n), api.OK)
		d.Write(0, full(1))
		d.Crash(nil, 0)
		wantLive(t, "behind a crash", d, true)
		for range 5 {
			wantErr(t, "Write", d.Write(0, full(2)), api.OK)
			wantErr(t, "Flush", d.Flush(), api.OK)
		}
		wantRead(t, "written behind a crash", d, 0, full(2))
		kill(t, d)
		d.Crash(nil, 0)
		wantErr(t, "Fuse behind a crash", d.Fuse(1), api.OK)
		wantErr(t, "a step ahead", d.Flush(), api.OK)
		wantErr(t, "the step behind", d.Flush(), api.ErrDead)
	}
}

// TestExamples is those of the chapter.
func TestExamples(t *testing.T) {
	d := newDisk(t, 2)
	d.Write(0, full('a'))
	d.Write(1, full('b'))
	d.Crash([]int{0, 1}, 0)
	wantRead(t, "a", d, 0, full(0))
	wantRead(t, "b", d, 1, full('b'))
	d = newDisk(t, 1)
	d.Write(0, full('a'))
	d.Crash(nil, 3)
	wantRead(t, "three bytes of a", d, 0, front(3, 'a', 0))
}
