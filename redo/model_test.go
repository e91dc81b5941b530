package redo_test

import (
	"bytes"
	"math/rand"
	"testing"

	"tenancy/api"
	"tenancy/disk"
	"tenancy/head"
	"tenancy/lap"
	"tenancy/redo"
)

// someRing answers a disk with a ring of n on which records stand, and some things that are wrong.
func someRing(t testing.TB, r *rand.Rand, n, homes int) *disk.Disk {
	t.Helper()
	d := newDisk(t, 2+n+homes)
	next, epoch := uint64(0), uint64(1)
	if r.Intn(3) > 0 {
		next = []uint64{0, 1, 300, maxCount - 5, maxCount - 30}[r.Intn(5)] + uint64(r.Intn(5))
		epoch = uint64(r.Intn(3))
		save(t, d, 2, head.Head{Gen: uint64(r.Intn(9)), Tail: next, Floor: epoch})
	}
	for k := range homes {
		write(t, d, 2+n+k, full(100+k))
	}
	for room := n; room > 0; {
		l := somePieces(r, epoch, next, homes)
		// Now and then a ring has more than there is room for.
		if room -= len(l); room < 0 && r.Intn(8) > 0 {
			break
		}
		for _, p := range l {
			if p.Count <= maxCount {
				lay(t, d, n, p)
				next = p.Count + 1
			}
		}
		epoch += uint64(r.Intn(2))
		if r.Intn(12) == 0 && epoch > 0 {
			epoch--
		}
	}
	if r.Intn(4) == 0 {
		i := r.Intn(2 + n)
		b, _ := d.Read(i)
		b[r.Intn(128)] ^= 1 << r.Intn(8)
		write(t, d, i, b)
	}
	return d
}

// somePieces answers the pieces of a transaction, of which one thing may be wrong.
func somePieces(r *rand.Rand, epoch, count uint64, homes int) []lap.Piece {
	l := puts(r.Intn(256), r.Perm(homes)[:1+r.Intn(homes)]...)
	wrong := r.Intn(60)
	switch wrong {
	case 0:
		l[0].At = homes
	case 1:
		l = append(l, l[0])
	case 2:
		l = nil
	}
	record := recordOf(l)
	switch wrong {
	case 3:
		record = append(record, 0)
	case 4:
		record[len(record)-1] ^= 1
	case 5:
		record[0]++
	}
	pieces := piecesOf(epoch, count, record)
	p := &pieces[r.Intn(len(pieces))]
	switch wrong {
	case 6:
		p.Epoch++
	case 7:
		p.Count++
	case 8:
		p.First = !p.First
	case 9:
		p.Last = !p.Last
	case 10:
		p.Data = p.Data[:len(p.Data)/2]
	}
	return pieces
}

// TestOpenModel is P6.2: what is said of many rings, against a model that asks condition by condition.
func TestOpenModel(t *testing.T) {
	r := rand.New(rand.NewSource(6))
	free := map[int]int{}
	for range 6000 {
		n, homes := 2+r.Intn(11), 1+r.Intn(4)
		s := wantSays(t, "some ring", someRing(t, r, n, homes), n)
		free[int(s.next-s.tail)]++
	}
	for _, n := range []int{0, 2, 4, 6, 8, 10, 12} {
		if free[n] < 30 {
			t.Errorf("%d rings said %d pieces: %v", free[n], n, free)
		}
	}
}

// FuzzOpen is P6.2, P6.3 and R1: any heads, any ring.
func FuzzOpen(f *testing.F) {
	r := rand.New(rand.NewSource(7))
	for range 20 {
		n := 2 + r.Intn(6)
		d := someRing(f, r, n, 2)
		b := []byte{}
		for i := range 2 + n {
			s, _ := d.Read(i)
			b = append(b, s...)
		}
		f.Add(n, b)
	}
	f.Fuzz(func(t *testing.T, n int, b []byte) {
		d := newDisk(t, 12)
		for i := 0; i < 12 && len(b) >= 128; i++ {
			write(t, d, i, b[:128])
			b = b[128:]
		}
		if n < 2 || n > 9 {
			wantNoLog(t, "any ring", d, n, api.ErrArg)
			return
		}
		for i := range 2 + n {
			s, _ := d.Read(i)
			if x, y := lap.Ends(s); x == maxEpoch || y == maxEpoch {
				wantNoLog(t, "any heads", d, n, api.ErrFull)
				return
			}
		}
		wantSays(t, "any", d, n)
	})
}

// state is what a log should be, but for its power.
type state struct {
	ring  int
	homes []string
	tail  uint64
	next  uint64
	gen   uint64
}

// written answers what Write should answer, and what is then.
func (s state) written(l []api.Put) (state, api.Errno) {
	if len(l) == 0 || len(l) > 24 {
		return s, api.ErrArg
	}
	for i, p := range l {
		for _, q := range l[:i] {
			if q.At == p.At {
				return s, api.ErrArg
			}
		}
		if p.At < 0 || p.At >= len(s.homes) || len(p.Data) != 128 {
			return s, api.ErrArg
		}
	}
	n := uint64(len(piecesOf(0, 0, recordOf(l))))
	if s.next+n-1 > maxCount || s.next+n-s.tail > uint64(s.ring) {
		return s, api.ErrFull
	}
	s.homes, s.next = with(s.homes, l), s.next+n
	return s, api.OK
}

// checked answers what is behind a Checkpoint.
func (s state) checked() state {
	s.tail, s.gen = s.next, s.gen+1
	return s
}

// wantState fails the test unless a log and its disk's newest Head are as they should be.
func wantState(t *testing.T, d *disk.Disk, l *redo.Log, s state) {
	t.Helper()
	wantHomes(t, "state", l, s.homes)
	wantFree(t, "state", l, s.ring-int(s.next-s.tail))
	if l.Homes() != len(s.homes) {
		t.Fatalf("%d homes, want %d", l.Homes(), len(s.homes))
	}
	h, _, e := head.Load(d, 0)
	if e != api.OK || h.Gen != s.gen || h.Tail != s.tail {
		t.Fatalf("Head %+v, error %d, want %+v", h, e, s)
	}
}

// somePuts answers Puts that mostly are a transaction.
func somePuts(r *rand.Rand, homes int) []api.Put {
	l := puts(r.Intn(256), r.Perm(homes)[:1+r.Intn(min(homes, 4))]...)
	switch r.Intn(16) {
	case 0:
		return nil
	case 1:
		l[len(l)-1].At = l[0].At + len(l)/2*homes
	case 2:
		l[len(l)-1].Data = bytes.Repeat([]byte{1}, r.Intn(260))
	case 3:
		return append(l, l[0])
	}
	return l
}

// TestLogModel is P6.3 and P6.4: many calls on a log, and logs opened anew, against a model.
func TestLogModel(t *testing.T) {
	r := rand.New(rand.NewSource(8))
	kinds := map[api.Errno]int{}
	for range 150 {
		n, homes := 2+r.Intn(14), 1+r.Intn(6)
		d := newDisk(t, 2+n+homes)
		s := state{ring: n, homes: sectors(t, d)[2+n:]}
		if r.Intn(2) == 0 {
			s.tail = maxCount - 20 - uint64(r.Intn(9))
			s.next, s.gen = s.tail, 5
			save(t, d, 1, head.Head{Gen: s.gen, Tail: s.tail, Floor: 1})
		}
		l := open(t, d, n)
		for range 40 {
			switch k := r.Intn(10); {
			case k < 7:
				list := somePuts(r, homes)
				after, want := s.written(list)
				wantErr(t, "Write", l.Write(list), want)
				s = after
				kinds[want]++
			case k == 7:
				wantErr(t, "Sync", l.Sync(), api.OK)
			case k == 8 && s.next <= maxCount:
				wantErr(t, "Checkpoint", l.Checkpoint(), api.OK)
				s = s.checked()
			case k == 9:
				l = open(t, d, n)
			}
			wantState(t, d, l, s)
		}
	}
	for _, e := range []api.Errno{api.OK, api.ErrArg, api.ErrFull} {
		if kinds[e] < 200 {
			t.Errorf("Write answered %d %d times: %v", e, kinds[e], kinds)
		}
	}
}
