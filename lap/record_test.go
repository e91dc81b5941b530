package lap_test

import (
	"bytes"
	"math"
	"math/rand"
	"testing"

	"tenancy/api"
	"tenancy/lap"
)

// cut answers the pieces of a record.
func cut(t *testing.T, epoch, count uint64, b []byte) []lap.Piece {
	t.Helper()
	l, e := lap.Cut(epoch, count, b)
	if e != api.OK {
		t.Fatalf("Cut(%d, %d, %d bytes): error %d", epoch, count, len(b), e)
	}
	return l
}

// wantNoCut fails the test unless a record is cut into nothing but an error.
func wantNoCut(t *testing.T, epoch, count uint64, n int, want api.Errno) {
	t.Helper()
	if l, e := lap.Cut(epoch, count, make([]byte, n)); e != want || len(l) != 0 {
		t.Errorf("Cut(%d, %d, %d bytes): %d pieces, error %d, want %d", epoch, count, n, len(l), e, want)
	}
}

// wantJoin fails the test unless pieces are those of a record of these bytes.
func wantJoin(t *testing.T, name string, l []lap.Piece, want []byte) {
	t.Helper()
	if b, e := lap.Join(l); e != api.OK || !bytes.Equal(b, want) {
		t.Errorf("%s: %d bytes, error %d, want %d", name, len(b), e, len(want))
	}
}

// wantNoJoin fails the test unless pieces are no record's.
func wantNoJoin(t *testing.T, name string, l []lap.Piece) {
	t.Helper()
	if b, e := lap.Join(l); e != api.ErrForm || len(b) != 0 {
		t.Errorf("%s: %d bytes, error %d", name, len(b), e)
	}
}

// walk answers the pieces that a record should have, made byte by byte.
func walk(epoch, count uint64, b []byte) []lap.Piece {
	l := []lap.Piece{{Epoch: epoch, Count: count, First: true}}
	for _, x := range b {
		if p := l[len(l)-1]; len(p.Data) == 106 {
			l = append(l, lap.Piece{Epoch: epoch, Count: p.Count + 1})
		}
		p := &l[len(l)-1]
		p.Data = append(p.Data, x)
	}
	l[len(l)-1].Last = true
	return l
}

// alike tells whether two lists of pieces are the same.
func alike(l, m []lap.Piece) bool {
	for i := range l {
		if i >= len(m) || !like(l[i], m[i]) {
			return false
		}
	}
	return len(l) == len(m)
}

// TestCut is P4.3: records of each length up to some, and of those about the greatest; cut, sealed, and joined (P4.4).
func TestCut(t *testing.T) {
	lengths := []int{8191, 8192, 77*106 - 1, 77 * 106, 77*106 + 1}
	for n := range 700 {
		lengths = append(lengths, n)
	}
	for n := 700; n < 8192; n += 53 {
		lengths = append(lengths, n)
	}
	for _, n := range lengths {
		b := some(int64(n), n)
		l := cut(t, 3, 9, b)
		if want := walk(3, 9, b); !alike(l, want) {
			t.Fatalf("%d bytes: got %+v, want %+v", n, l, want)
		}
		wantJoin(t, "cut", l, b)
		back := []lap.Piece{}
		for _, p := range l {
			q, e := lap.Unseal(seal(t, p))
			if e != api.OK {
				t.Fatalf("%d bytes: error %d", n, e)
			}
			back = append(back, q)
		}
		wantJoin(t, "cut and sealed", back, b)
	}
}

// TestCutCounts is P4.3: how many pieces there are.
func TestCutCounts(t *testing.T) {
	for n, want := range map[int]int{0: 1, 1: 1, 105: 1, 106: 1, 107: 2, 211: 2, 212: 2, 213: 3, 8162: 77, 8163: 78, 8192: 78} {
		if l := cut(t, 1, 1, make([]byte, n)); len(l) != want {
			t.Errorf("%d bytes: %d pieces, want %d", n, len(l), want)
		}
	}
	if l := cut(t, 1, 1, nil); len(l) != 1 || !like(l[0], lap.Piece{Epoch: 1, Count: 1, First: true, Last: true}) {
		t.Errorf("nil: %+v", l)
	}
	if l := cut(t, 3, 9, make([]byte, 107)); len(l) != 2 || len(l[0].Data) != 106 || len(l[1].Data) != 1 {
		t.Errorf("the chapter's example: %+v", l)
	}
}

// TestCutStamps is P4.3: each stamp up to the last one that may be, wherever a record begins.
func TestCutStamps(t *testing.T) {
	for _, n := range []int{0, 1, 106, 107, 212, 213, 8192} {
		b := some(int64(n), n)
		last := uint64(max(0, n-1) / 106)
		for _, epoch := range []uint64{0, 1, maxEpoch} {
			for _, count := range []uint64{0, 1, 1<<32 - 1, maxCount - last} {
				l := cut(t, epoch, count, b)
				if !alike(l, walk(epoch, count, b)) {
					t.Errorf("%d bytes from %d, %d on: %+v", n, epoch, count, l)
				}
				wantJoin(t, "cut", l, b)
			}
			wantNoCut(t, epoch, maxCount-last+1, n, api.ErrArg)
			wantNoCut(t, epoch, maxCount+1, n, api.ErrArg)
		}
	}
}

// TestCutWrong is P4.3: a stamp that is none, of whichever piece, ahead of bytes that are too many.
func TestCutWrong(t *testing.T) {
	for _, n := range []int{0, 1, 107, 8192, 8193, 1 << 20} {
		for _, s := range wrongStamps() {
			wantNoCut(t, s[0], s[1], n, api.ErrArg)
		}
		for back := range uint64(300) {
			wantNoCut(t, 1, math.MaxUint64-back, n, api.ErrArg)
		}
	}
	for _, n := range []int{8193, 8194, 8268, 8269, 16384, 1 << 20} {
		last := uint64(n-1) / 106
		wantNoCut(t, 0, 0, n, api.ErrBig)
		wantNoCut(t, maxEpoch, maxCount-last, n, api.ErrBig)
		wantNoCut(t, maxEpoch, maxCount-last+1, n, api.ErrArg)
		wantNoCut(t, maxEpoch, maxCount, n, api.ErrArg)
		wantNoCut(t, maxEpoch+1, maxCount-last, n, api.ErrArg)
	}
}

// TestJoinNone is P4.3: no pieces are no record's, as one of no bytes has a piece.
func TestJoinNone(t *testing.T) {
	wantNoJoin(t, "nil", nil)
	wantNoJoin(t, "none", []lap.Piece{})
	wantNoJoin(t, "a zero piece", []lap.Piece{{}})
	wantNoJoin(t, "zero pieces", make([]lap.Piece, 3))
	wantJoin(t, "no bytes", []lap.Piece{{First: true, Last: true}}, nil)
	wantJoin(t, "no bytes, not nil", []lap.Piece{{First: true, Last: true, Data: []byte{}}}, nil)
}

// TestJoinChanged is P4.3: a record's pieces of which one is changed, away, there twice, or at another place.
func TestJoinChanged(t *testing.T) {
	for _, n := range []int{0, 1, 106, 107, 212, 300, 1000} {
		b := some(int64(n), n)
		good := walk(5, 70, b)
		for i := range good {
			changed := func(name string, do func(p *lap.Piece)) {
				l := walk(5, 70, b)
				do(&l[i])
				wantNoJoin(t, name, l)
			}
			changed("not First, or First", func(p *lap.Piece) { p.First = !p.First })
			changed("not Last, or Last", func(p *lap.Piece) { p.Last = !p.Last })
			changed("one byte more than Room", func(p *lap.Piece) { p.Data = make([]byte, 107) })
			changed("many bytes more", func(p *lap.Piece) { p.Data = make([]byte, 212) })
			if len(good) > 1 {
				changed("another epoch", func(p *lap.Piece) { p.Epoch++ })
				changed("an epoch below", func(p *lap.Piece) { p.Epoch-- })
				changed("another count", func(p *lap.Piece) { p.Count++ })
				changed("a count below", func(p *lap.Piece) { p.Count-- })
				changed("a count far above", func(p *lap.Piece) { p.Count += counts })
				changed("no bytes", func(p *lap.Piece) { p.Data = nil })
				wantNoJoin(t, "away", append(walk(5, 70, b)[:i], good[i+1:]...))
			}
			if i < len(good)-1 {
				changed("one byte fewer", func(p *lap.Piece) { p.Data = p.Data[1:] })
				l := walk(5, 70, b)
				l[i], l[i+1] = l[i+1], l[i]
				wantNoJoin(t, "the other way round", l)
			}
			wantNoJoin(t, "twice", append(walk(5, 70, b)[:i+1], good[i:]...))
		}
		wantNoJoin(t, "two records", append(walk(5, 70, b), walk(5, 70+uint64(len(good)), b)...))
		wantJoin(t, "not changed", good, b)
	}
}

// TestJoinEnd is P4.3: the last one has no bytes just where it is the only one; and there is one that is Last.
func TestJoinEnd(t *testing.T) {
	b := some(1, 212)
	l := walk(1, 1, b)
	l[1].Last = false
	wantNoJoin(t, "none is Last", l)
	l = append(l, lap.Piece{Epoch: 1, Count: 3, Last: true})
	wantNoJoin(t, "an empty one behind full ones", l)
	l[2].Data = []byte{7}
	wantJoin(t, "one of a byte behind full ones", l, append(bytes.Clone(b), 7))
	wantNoJoin(t, "two empty ones", []lap.Piece{{First: true}, {Count: 1, Last: true}})
	wantNoJoin(t, "an empty one ahead", []lap.Piece{{First: true}, {Count: 1, Last: true, Data: []byte{1}}})
}

// TestJoinStamps is P4.3: stamps that are none are no record's, wherever the counts run over.
func TestJoinStamps(t *testing.T) {
	for _, s := range wrongStamps() {
		wantNoJoin(t, "a wrong stamp", []lap.Piece{{Epoch: s[0], Count: s[1], First: true, Last: true}})
		wantNoJoin(t, "a wrong stamp", walk(s[0], s[1], make([]byte, 300)))
	}
	wantNoJoin(t, "over the greatest count", walk(1, maxCount, make([]byte, 107)))
	wantNoJoin(t, "over the greatest count", walk(1, maxCount-1, make([]byte, 213)))
	wantNoJoin(t, "over 2^64", walk(1, math.MaxUint64, make([]byte, 107)))
	wantJoin(t, "up to the greatest count", walk(maxEpoch, maxCount-1, make([]byte, 107)), make([]byte, 107))
	l := walk(1, maxCount, make([]byte, 107))
	l[1].Count = 0
	wantNoJoin(t, "around to nought", l)
	l[1].Count, l[1].Epoch = 0, 2
	wantNoJoin(t, "around to the next epoch", l)
}

// TestJoinBig is P4.3: no record has more than MaxRecord bytes.
func TestJoinBig(t *testing.T) {
	b := some(1, 8192)
	wantJoin(t, "the greatest", walk(1, 1, b), b)
	for _, n := range []int{8193, 8267, 8268, 8269, 10000} {
		wantNoJoin(t, "greater", walk(1, 1, make([]byte, n)))
	}
	huge := make([]byte, 1<<20)
	l := make([]lap.Piece, 1<<12)
	for i := range l {
		l[i] = lap.Piece{Epoch: 1, Count: uint64(i), First: i == 0, Last: i == len(l)-1, Data: huge}
	}
	wantNoJoin(t, "greater by far", l)
	for i := range l {
		l[i].Data = nil
	}
	wantNoJoin(t, "many without bytes", l)
}

// TestRecordMemory is R3 of P4.3: what is handed in is neither changed nor kept, and an answer is new memory, of which no two pieces share any.
func TestRecordMemory(t *testing.T) {
	b := some(6, 500)
	want := walk(1, 1, b)
	l := cut(t, 1, 1, b[:300])
	for i := range b {
		b[i]++
	}
	if !alike(l, walk(1, 1, some(6, 500)[:300])) {
		t.Error("what was handed in was kept")
	}
	l = cut(t, 1, 1, some(6, 500))
	before := bytes.Clone(b)
	for i := range l {
		_ = append(l[i].Data, 9, 9, 9)
		l[i].Data[0]++
	}
	for i := range l {
		l[i].Data[0]--
	}
	if !alike(l, want) || !bytes.Equal(b, before) {
		t.Error("pieces share with one another, or with what was handed in")
	}
	for _, n := range []int{1, 5} {
		l := want[:n:n]
		if n == 1 {
			l = cut(t, 2, 3, some(7, 40))
		}
		first, _ := lap.Join(l)
		again, _ := lap.Join(l)
		first[0]++
		_ = append(first[:1], 9)
		wantJoin(t, "behind a change of an answer", l, again)
		l[0].Data[1]++
		if len(again) < 2 || again[1] == l[0].Data[1] {
			t.Error("what was handed in was kept")
		}
		l[0].Data[1]--
	}
}

// isRecord tells in words of its own whether pieces are just a record's.
func isRecord(l []lap.Piece) bool {
	size := 0
	for i, p := range l {
		first, last := i == 0, i == len(l)-1
		switch {
		case p.Epoch > maxEpoch || p.Count > maxCount || p.Epoch != l[0].Epoch || p.Count != l[0].Count+uint64(i):
			return false
		case p.First != first || p.Last != last:
			return false
		case len(p.Data) > 106 || !last && len(p.Data) < 106 || !first && len(p.Data) == 0:
			return false
		}
		size += len(p.Data)
	}
	return len(l) > 0 && size <= 8192
}

// TestJoinAny is P4.3: lists of a few pieces, which are a record's now and then.
func TestJoinAny(t *testing.T) {
	r := rand.New(rand.NewSource(5))
	joined := 0
	for range 50000 {
		l := make([]lap.Piece, r.Intn(4))
		all := []byte{}
		for i := range l {
			size := 106
			if r.Intn(3) == 0 || i == len(l)-1 {
				size = []int{0, 1, 105, 106, 107}[r.Intn(5)]
			}
			l[i] = lap.Piece{Epoch: 1, Count: uint64(7 + i), First: i == 0, Last: i == len(l)-1, Data: make([]byte, size)}
			r.Read(l[i].Data)
			switch r.Intn(20) {
			case 0:
				l[i].Epoch = uint64(r.Intn(3))
			case 1:
				l[i].Count = uint64(r.Intn(12))
			case 2:
				l[i].First = r.Intn(2) == 0
			case 3:
				l[i].Last = r.Intn(2) == 0
			}
			all = append(all, l[i].Data...)
		}
		if isRecord(l) {
			wantJoin(t, "a record", l, all)
			joined++
		} else {
			wantNoJoin(t, "no record", l)
		}
	}
	if joined < 1000 {
		t.Errorf("only %d were records", joined)
	}
}

// FuzzCut is R1, P4.3 and P4.4: whatever is cut is a record's pieces, and joined as it was.
func FuzzCut(f *testing.F) {
	f.Add(uint64(3), uint64(9), make([]byte, 107))
	f.Add(uint64(0), uint64(maxCount), make([]byte, 107))
	f.Add(uint64(maxEpoch+1), uint64(1), []byte{})
	f.Fuzz(func(t *testing.T, epoch, count uint64, b []byte) {
		l, e := lap.Cut(epoch, count, b)
		want := walk(epoch, count, b)
		if last := want[len(want)-1].Count; epoch > maxEpoch || count > maxCount || last > maxCount {
			if e != api.ErrArg || len(l) != 0 {
				t.Errorf("%d pieces, error %d, want %d", len(l), e, api.ErrArg)
			}
			return
		}
		if len(b) > 8192 {
			if e != api.ErrBig || len(l) != 0 {
				t.Errorf("%d pieces, error %d, want %d", len(l), e, api.ErrBig)
			}
			return
		}
		if e != api.OK || !alike(l, want) || !isRecord(l) {
			t.Errorf("%+v, error %d", l, e)
		}
		wantJoin(t, "cut", l, b)
	})
}
