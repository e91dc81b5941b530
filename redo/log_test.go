package redo_test

import (
	"slices"
	"testing"

	"tenancy/api"
	"tenancy/disk"
	"tenancy/head"
	"tenancy/redo"
)

// filled answers a disk with a ring of n, whose homes are such as no other one is, and last, and its log.
func filled(t testing.TB, n, homes int) (*disk.Disk, *redo.Log) {
	t.Helper()
	d := newDisk(t, 2+n+homes)
	for i := range homes {
		write(t, d, 2+n+i, full(200+i))
	}
	wantErr(t, "Flush", d.Flush(), api.OK)
	return d, open(t, d, n)
}

// wantWrite fails the test unless a transaction is written, or this error is answered.
func wantWrite(t testing.TB, l *redo.Log, list []api.Put, want api.Errno) {
	t.Helper()
	wantErr(t, "Write", l.Write(list), want)
}

// TestRead is P6.3: a home as it lies on the disk, or by the last transaction that has it; ErrArg of one that is none.
func TestRead(t *testing.T) {
	d, l := filled(t, 9, 4)
	want := sectors(t, d)[11:]
	wantHomes(t, "nothing written", l, want)
	for i, list := range [][]api.Put{puts(1, 2), puts(5, 0, 2), puts(9, 2, 1)} {
		wantWrite(t, l, list, []api.Errno{api.OK, api.OK, api.OK}[i])
		want = with(want, list)
		wantHomes(t, "written", l, want)
		if slices.Equal(sectors(t, d)[11:], want) {
			t.Error("homes are home ahead of a Checkpoint")
		}
		wantHomes(t, "opened anew", open(t, d, 9), want)
	}
	for _, at := range wrongPlaces(4) {
		if b, e := l.Read(at); b != nil || e != api.ErrArg {
			t.Errorf("home %d: %x, error %d", at, b, e)
		}
	}
	if n := l.Homes(); n != 4 {
		t.Errorf("%d homes", n)
	}
}

// TestNobodyElses is R3: what is handed in is neither changed nor kept, what is answered is new.
func TestNobodyElses(t *testing.T) {
	d, l := filled(t, 9, 4)
	list := puts(1, 2, 0)
	want := with(homes(t, l), list)
	wantWrite(t, l, list, api.OK)
	if string(list[0].Data) != string(full(1)) || list[0].At != 2 || list[1].At != 0 {
		t.Error("Write changed what it was handed")
	}
	list[0].At = 3
	for _, p := range list {
		clear(p.Data)
	}
	wantHomes(t, "what was handed in changed", l, want)
	for i := range 4 {
		b, _ := l.Read(i)
		clear(b)
		_ = append(b, 1)
	}
	wantHomes(t, "what was answered changed", l, want)
	wantErr(t, "Checkpoint", l.Checkpoint(), api.OK)
	wantHomes(t, "brought home", l, want)
	for i := range 4 {
		b, _ := l.Read(i)
		clear(b)
	}
	wantHomes(t, "what was answered changed", l, want)
	wantSectors(t, "brought home", d, slices.Concat(sectors(t, d)[:11], want))
}

// wantNothing fails the test unless a call made no step of a disk.
func wantNothing(t testing.TB, name string, d *disk.Disk, call func()) {
	t.Helper()
	before, waits := sectors(t, d), d.Waits()
	call()
	wantSectors(t, name, d, before)
	wantWaits(t, name, d, waits...)
}

// TestWriteWrong is P6.4: ErrArg of what is no transaction of this log's homes; nothing is changed, and the error does not stay; so, too, where the ring is full or the power off, as these are named behind.
func TestWriteWrong(t *testing.T) {
	for _, kind := range []string{"free", "full", "without power"} {
		d, l := filled(t, 4, 3)
		switch kind {
		case "full":
			wantWrite(t, l, puts(1, 0), api.OK)
			wantWrite(t, l, puts(2, 1), api.OK)
		case "without power":
			wantErr(t, "Fuse", d.Fuse(0), api.OK)
			wantErr(t, "Flush", d.Flush(), api.ErrDead)
		}
		free, want := l.Free(), homes(t, l)
		for name, list := range wrongPuts(3) {
			wantNothing(t, name, d, func() { wantErr(t, kind+": "+name, l.Write(list), api.ErrArg) })
		}
		wantFree(t, kind, l, free)
		wantHomes(t, kind, l, want)
		wantWrite(t, l, puts(7, 2), map[string]api.Errno{"full": api.ErrFull, "without power": api.ErrDead}[kind])
	}
}

// TestWriteFull is P6.4: ErrFull just where a transaction has more pieces than are free; nothing is changed, and the error does not stay.
func TestWriteFull(t *testing.T) {
	for n := 2; n <= 32; n++ {
		for k := 1; k <= 24; k++ {
			d, l := filled(t, n, 24)
			list := puts(k, row(k)...)
			need := redo.Need(list)
			if need <= n {
				wantWrite(t, l, list, api.OK)
				wantFree(t, "written", l, n-need)
				continue
			}
			before := homes(t, l)
			wantNothing(t, "full", d, func() { wantWrite(t, l, list, api.ErrFull) })
			wantFree(t, "full", l, n)
			wantHomes(t, "full", l, before)
			wantWrite(t, l, puts(9, 5), api.OK)
		}
	}
}

// TestWriteFullBehind is P6.4: pieces count together, in one life and in those behind it, up to the ring's last one; behind a Checkpoint all is free.
func TestWriteFullBehind(t *testing.T) {
	for _, anew := range []bool{false, true} {
		d, l := filled(t, 7, 3)
		for round := range 3 {
			for i, free := range []int{5, 2, 2, 0, 0} {
				list := [][]api.Put{puts(round, 0), puts(round, 0, 1), puts(round, 2, 1), puts(round, 2), puts(round, 1)}[i]
				want := map[bool]api.Errno{false: api.OK, true: api.ErrFull}[i == 2 || i == 4]
				wantWrite(t, l, list, want)
				wantFree(t, "behind a Write", l, free)
				if anew {
					l = open(t, d, 7)
					wantFree(t, "opened anew", l, free)
				}
			}
			wantErr(t, "Checkpoint", l.Checkpoint(), api.OK)
			wantFree(t, "behind a Checkpoint", l, 7)
		}
	}
}

// TestWriteLastCount is P6.4: counts up to MaxCount are written; ErrFull, where one would be above, though the ring is free.
func TestWriteLastCount(t *testing.T) {
	for from, want := range map[uint64][]api.Errno{
		maxCount:     {api.ErrFull, api.ErrFull},
		maxCount - 1: {api.OK, api.ErrFull},
		maxCount - 2: {api.OK, api.ErrFull},
		maxCount - 3: {api.OK, api.OK},
		maxCount - 4: {api.OK, api.OK},
	} {
		d := newDisk(t, 2+20+3)
		save(t, d, 1, head.Head{Gen: 1, Tail: from, Floor: 1})
		l, free := open(t, d, 20), 20
		for i, e := range want {
			wantWrite(t, l, puts(1, i), e)
			if e == api.OK {
				free -= 2
			}
			wantFree(t, "at the last counts", l, free)
		}
		wantWrite(t, l, puts(1, 0, 1, 2), api.ErrFull)
		s := wantSays(t, "at the last counts", d, 20)
		if s.next != from+uint64(20-free) {
			t.Errorf("from %d on: next is %d", from, s.next)
		}
		wantErr(t, "Sync", l.Sync(), api.OK)
	}
}

// TestCheckpointLastCount is P6.4 and P5.2: where the count MaxCount was written no Head can have the next one as its Tail; what Save says of it stays.
func TestCheckpointLastCount(t *testing.T) {
	d := newDisk(t, 2+20+3)
	save(t, d, 1, head.Head{Gen: 1, Tail: maxCount - 1, Floor: 1})
	l := open(t, d, 20)
	wantWrite(t, l, puts(1, 2), api.OK)
	want := homes(t, l)
	wantErr(t, "Checkpoint", l.Checkpoint(), api.ErrArg)
	wantErr(t, "Sync", l.Sync(), api.ErrArg)
	wantFree(t, "no Checkpoint", l, 18)
	wantHomes(t, "no Checkpoint", l, want)
	d.Crash(nil, 0)
	wantHomes(t, "opened anew", open(t, d, 20), want)
}

// TestSync is P6.4: what was written lasts, by one flush; what was not is forgotten.
func TestSync(t *testing.T) {
	d, l := filled(t, 9, 3)
	wantWrite(t, l, puts(1, 1), api.OK)
	wantErr(t, "Sync", l.Sync(), api.OK)
	wantWaits(t, "Sync", d)
	want := homes(t, l)
	wantWrite(t, l, puts(2, 1, 2), api.OK)
	d.Crash(nil, 0)
	l = open(t, d, 9)
	wantHomes(t, "a crash", l, want)
	wantErr(t, "Fuse", d.Fuse(1), api.OK)
	wantErr(t, "Sync", l.Sync(), api.OK)
	wantErr(t, "Sync", l.Sync(), api.ErrDead)
}

// TestExample is the chapter's: Write a, Sync, Write b, a crash: a, or a and b.
func TestExample(t *testing.T) {
	seen := map[string]int{}
	for keep := range 4 {
		for torn := range 128 {
			d, l := filled(t, 9, 2)
			a, b := puts(1, 0), puts(2, 1)
			old := homes(t, l)
			wantWrite(t, l, a, api.OK)
			wantErr(t, "Sync", l.Sync(), api.OK)
			wantWrite(t, l, b, api.OK)
			d.Crash([]int{keep & 1, keep & 2}, torn)
			got := homes(t, open(t, d, 9))
			switch {
			case slices.Equal(got, with(old, a)):
				seen["a"]++
			case slices.Equal(got, with(with(old, a), b)):
				seen["a and b"]++
			default:
				t.Fatalf("%q", fronts(got))
			}
		}
	}
	if seen["a"] == 0 || seen["a and b"] == 0 {
		t.Errorf("seen %v: each of both may be", seen)
	}
}

// TestCheckpoint is P6.4: each home that the ring has is written once, as the last transaction has it; a Head is saved; the ring is free; no home is changed, and all lasts.
func TestCheckpoint(t *testing.T) {
	d, l := filled(t, 12, 5)
	next := uint64(0)
	for gen := range uint64(9) {
		for i, list := range [][]api.Put{puts(int(gen), 4, 1), puts(int(3*gen), 1), puts(int(5*gen), 0, 4)}[:gen%4] {
			wantWrite(t, l, list, api.OK)
			next += []uint64{3, 2, 3}[i]
		}
		want := homes(t, l)
		wantErr(t, "Checkpoint", l.Checkpoint(), api.OK)
		wantFree(t, "Checkpoint", l, 12)
		wantHomes(t, "Checkpoint", l, want)
		wantWaits(t, "Checkpoint", d)
		if s := sectors(t, d)[14:]; !slices.Equal(s, want) {
			t.Fatalf("not home: %q, want %q", fronts(s), fronts(want))
		}
		h := head.Head{Gen: gen + 1, Tail: next, Floor: 1}
		if got, ok, _ := head.Load(d, 0); got != h || !ok {
			t.Fatalf("Head %+v, want %+v", got, h)
		}
		d.Crash(nil, 0)
		wantSays(t, "a crash", d, 12)
		wantHomes(t, "a crash", open(t, d, 12), want)
	}
}

// TestCheckpointFloor is P6.4: a Head's Floor is the log's epoch, and its sector has that, too; its Gen goes on from the newest Head.
func TestCheckpointFloor(t *testing.T) {
	d := newDisk(t, 2+6+2)
	for life := range uint64(7) {
		l := open(t, d, 6)
		wantWrite(t, l, puts(int(life), 1), api.OK)
		for k := range uint64(2) {
			wantErr(t, "Checkpoint", l.Checkpoint(), api.OK)
			h, ok, _ := head.Load(d, 0)
			want := head.Head{Gen: 2*life + k + 1, Tail: 2 * (life + 1), Floor: life + 1}
			if h != want || !ok {
				t.Fatalf("Head %+v, want %+v", h, want)
			}
			at, twin := int(h.Gen%2), newDisk(t, 2)
			save(t, twin, life+1, want)
			if a, b := sectors(t, d)[at], sectors(t, twin)[at]; a != b {
				t.Fatalf("the Head's sector is %x, want %x", a, b)
			}
		}
	}
}

// steps answers the steps of a Checkpoint of these homes, each by the sectors that wait behind it.
func steps(n int, gen uint64, homes ...int) [][]int {
	l := [][]int{{}}
	for i := range homes {
		w := []int{}
		for _, at := range homes[:i+1] {
			w = append(w, 2+n+at)
		}
		l = append(l, w)
	}
	return append(l, []int{}, []int{int(gen % 2)}, []int{})
}

// TestCheckpointSteps is P6.4: a flush, the homes, rising, a flush, the Head, a flush; wherever the power goes off the error stays, nothing is free, no home is changed.
func TestCheckpointSteps(t *testing.T) {
	for _, list := range [][]api.Put{nil, puts(1, 3), puts(1, 4, 0, 3, 1), puts(1, 6, 5, 4, 3, 2, 1, 0)} {
		at := []int{}
		for _, p := range list {
			at = append(at, p.At)
		}
		slices.Sort(at)
		all := steps(12, 1, at...)
		for fuse := range len(all) + 1 {
			d, l := filled(t, 12, 7)
			if list != nil {
				wantWrite(t, l, list, api.OK)
			}
			free, want, waits := l.Free(), homes(t, l), d.Waits()
			wantErr(t, "Fuse", d.Fuse(fuse), api.OK)
			if fuse == len(all) {
				wantErr(t, "Checkpoint", l.Checkpoint(), api.OK)
				wantFree(t, "Checkpoint", l, 12)
				wantErr(t, "a step more", l.Sync(), api.ErrDead)
				continue
			}
			wantErr(t, "Checkpoint", l.Checkpoint(), api.ErrDead)
			if fuse > 0 {
				waits = all[fuse-1]
			}
			wantWaits(t, "Checkpoint", d, waits...)
			wantFree(t, "no Checkpoint", l, free)
			wantHomes(t, "no Checkpoint", l, want)
			wantStays(t, d, l, api.ErrDead)
		}
	}
}

// TestCheckpointTwice is P6.4: what was brought home is written home no more, unless a transaction behind has it, too; it is read as it lies on the disk.
func TestCheckpointTwice(t *testing.T) {
	for _, list := range [][]api.Put{nil, puts(9, 1), puts(9, 4, 1, 5)} {
		at := []int{}
		for _, p := range list {
			at = append(at, p.At)
		}
		slices.Sort(at)
		all := steps(12, 2, at...)
		for fuse := range len(all) + 1 {
			d, l := filled(t, 12, 7)
			wantWrite(t, l, puts(1, 4, 0, 3, 1), api.OK)
			wantErr(t, "Checkpoint", l.Checkpoint(), api.OK)
			write(t, d, 14+3, full(77))
			wantHomes(t, "as it lies on the disk", l, sectors(t, d)[14:])
			wantErr(t, "Sync", l.Sync(), api.OK)
			if list != nil {
				wantWrite(t, l, list, api.OK)
			}
			waits := d.Waits()
			wantErr(t, "Fuse", d.Fuse(fuse), api.OK)
			if e := l.Checkpoint(); (e == api.OK) != (fuse == len(all)) {
				t.Fatalf("a fuse of %d: error %d", fuse, e)
			}
			if fuse > 0 {
				waits = all[min(fuse, len(all))-1]
			}
			wantWaits(t, "the second Checkpoint", d, waits...)
			if b, _ := l.Read(3); string(b) != string(full(77)) {
				t.Fatalf("home 3 is %x", b)
			}
		}
	}
}

// wantStays fails the test unless an error stays, whatever is called, though the power is on again; what is told stays as well.
func wantStays(t *testing.T, d *disk.Disk, l *redo.Log, want api.Errno) {
	t.Helper()
	free, at := l.Free(), l.Homes()
	d.Crash(nil, 0)
	wantNothing(t, "the error that stays", d, func() {
		for range 2 {
			wantErr(t, "Write", l.Write(puts(1, 0)), want)
			wantErr(t, "Write of none", l.Write(nil), want)
			wantErr(t, "Write of too many", l.Write(puts(1, row(25)...)), want)
			wantErr(t, "Sync", l.Sync(), want)
			wantErr(t, "Checkpoint", l.Checkpoint(), want)
		}
	})
	wantFree(t, "the error that stays", l, free)
	if n := l.Homes(); n != at {
		t.Errorf("%d homes, want %d", n, at)
	}
	if b, e := l.Read(at); b != nil || e != api.ErrArg {
		t.Errorf("Read of no home: %x, error %d", b, e)
	}
}

// TestCheckpointGen is P6.4: ErrFull, which stays, of a Gen above MaxCount; the Head stays as it was.
func TestCheckpointGen(t *testing.T) {
	d := newDisk(t, 2+6+3)
	save(t, d, 1, head.Head{Gen: maxCount - 1, Tail: 9, Floor: 1})
	l := open(t, d, 6)
	wantWrite(t, l, puts(1, 2), api.OK)
	wantErr(t, "Checkpoint", l.Checkpoint(), api.OK)
	wantWrite(t, l, puts(2, 1), api.OK)
	want := homes(t, l)
	wantErr(t, "Checkpoint", l.Checkpoint(), api.ErrFull)
	wantFree(t, "no Checkpoint", l, 4)
	wantHomes(t, "no Checkpoint", l, want)
	if h, _, _ := head.Load(d, 0); h != (head.Head{Gen: maxCount, Tail: 11, Floor: 2}) {
		t.Errorf("Head %+v", h)
	}
	wantStays(t, d, l, api.ErrFull)
	wantHomes(t, "opened anew", open(t, d, 6), want)
}

// TestCheckpointGenWithoutPower is P6.4: what is done ahead of the Head errs first, also where its Gen is above MaxCount.
func TestCheckpointGenWithoutPower(t *testing.T) {
	for fuse, want := range []api.Errno{api.ErrDead, api.ErrDead, api.ErrDead, api.ErrFull} {
		d := newDisk(t, 2+6+3)
		save(t, d, 1, head.Head{Gen: maxCount, Tail: 9, Floor: 1})
		l := open(t, d, 6)
		wantWrite(t, l, puts(1, 2), api.OK)
		wantErr(t, "Fuse", d.Fuse(fuse), api.OK)
		wantErr(t, "Checkpoint", l.Checkpoint(), want)
		wantStays(t, d, l, want)
	}
}

// TestWriteSteps is P6.4: a step a piece; where the power goes off within a Write its homes are as they were, nothing is taken, and the error stays.
func TestWriteSteps(t *testing.T) {
	for fuse := range 4 {
		d, l := filled(t, 9, 3)
		wantWrite(t, l, puts(1, 0), api.OK)
		before := homes(t, l)
		wantErr(t, "Fuse", d.Fuse(fuse), api.OK)
		list := puts(5, 2, 0)
		if fuse == 3 {
			wantWrite(t, l, list, api.OK)
			wantHomes(t, "written", l, with(before, list))
			wantErr(t, "a step more", l.Sync(), api.ErrDead)
			continue
		}
		wantWrite(t, l, list, api.ErrDead)
		wantWaits(t, "not written", d, []int{2, 3, 4, 5}[:2+fuse]...)
		wantFree(t, "not written", l, 7)
		wantHomes(t, "not written", l, before)
		wantStays(t, d, l, api.ErrDead)
	}
}

// TestSyncWithoutPower is P6.4: the disk's error stays.
func TestSyncWithoutPower(t *testing.T) {
	d, l := filled(t, 9, 3)
	wantWrite(t, l, puts(1, 0), api.OK)
	want := homes(t, l)
	wantErr(t, "Fuse", d.Fuse(0), api.OK)
	wantErr(t, "Sync", l.Sync(), api.ErrDead)
	wantHomes(t, "no Sync", l, want)
	wantStays(t, d, l, api.ErrDead)
}

// TestNoLog is P6.4 and R1: of a log that is nil, or that Open did not make, ErrNil, 0.
func TestNoLog(t *testing.T) {
	for _, l := range []*redo.Log{nil, {}} {
		for _, at := range append(wrongPlaces(0), 0) {
			if b, e := l.Read(at); b != nil || e != api.ErrNil {
				t.Errorf("Read(%d): %x, error %d", at, b, e)
			}
		}
		for _, list := range [][]api.Put{nil, puts(1, 0), puts(1, -1), puts(1, row(25)...)} {
			wantErr(t, "Write", l.Write(list), api.ErrNil)
		}
		wantErr(t, "Sync", l.Sync(), api.ErrNil)
		wantErr(t, "Checkpoint", l.Checkpoint(), api.ErrNil)
		if l.Homes() != 0 || l.Free() != 0 {
			t.Errorf("%d homes, %d free", l.Homes(), l.Free())
		}
	}
}
