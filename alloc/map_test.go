package alloc_test

import (
	"bytes"
	"math"
	"math/rand"
	"slices"
	"testing"

	"tenancy/alloc"
	"tenancy/api"
)

// wrongCounts are how many homes no map has.
var wrongCounts = []int{0, -1, -2, -8, -1024, 1025, 1026, 1032, 2048, 1 << 32, 1<<32 + 1, 1<<32 + 1024, math.MaxInt, math.MaxInt - 7, math.MinInt, math.MinInt + 1}

// TestNew is P10.1: 1 to 1024 homes, all of them free.
func TestNew(t *testing.T) {
	for n := 1; n <= 1024; n++ {
		wantLike(t, newMap(t, n), holding(n))
	}
}

// TestNewWrong is P10.1: nil and ErrArg of any other number.
func TestNewWrong(t *testing.T) {
	for _, n := range wrongCounts {
		if m, e := alloc.New(n); m != nil || e != api.ErrArg {
			t.Errorf("New(%d): a map: %t, error %d, want none and error %d", n, m != nil, e, api.ErrArg)
		}
	}
}

// TestNewApart is R4: what is done with a map does nothing to another one.
func TestNewApart(t *testing.T) {
	m := mapOf(t, holding(9, 0, 3, 8))
	wantLike(t, newMap(t, 9), holding(9))
	wantLike(t, m, holding(9, 0, 3, 8))
}

// TestHasNoHome is P10.1: of what is no home, Has is false, whatever the homes are.
func TestHasNoHome(t *testing.T) {
	for _, n := range counts {
		for _, l := range []model{holding(n), holding(n, every(n)...), holding(n, 0), holding(n, n-1)} {
			m := mapOf(t, l)
			for _, i := range noHomes(n) {
				if m.Has(i) {
					t.Errorf("of %d homes Has(%d) is true", n, i)
				}
			}
		}
	}
}

// TestTakeEach is P10.1 and P10.2: homes are taken one by one from the least on, till none is free.
func TestTakeEach(t *testing.T) {
	for _, n := range counts {
		m, l := newMap(t, n), holding(n)
		for i := range n {
			wantTake(t, m, i, api.OK)
			l[i] = true
			wantLike(t, m, l)
		}
		for range 3 {
			wantTake(t, m, -1, api.ErrFull)
			wantLike(t, m, l)
		}
	}
}

// TestTakeExample is the chapter's example.
func TestTakeExample(t *testing.T) {
	m := newMap(t, 3)
	wantTake(t, m, 0, api.OK)
	wantTake(t, m, 1, api.OK)
	wantErr(t, "Give", 0, m.Give(0), api.OK)
	wantTake(t, m, 0, api.OK)
	wantTake(t, m, 2, api.OK)
	wantTake(t, m, -1, api.ErrFull)
}

// TestTakeTheOnlyOne is P10.2: of a map in which one home alone is free, wherever it is, that is taken.
func TestTakeTheOnlyOne(t *testing.T) {
	for _, n := range counts {
		l := holding(n, every(n)...)
		m := mapOf(t, l)
		for i := range n {
			wantErr(t, "Give", i, m.Give(i), api.OK)
			if m.Free() != 1 || m.Has(i) {
				t.Fatalf("of %d homes, behind Give(%d): %d free, Has %t", n, i, m.Free(), m.Has(i))
			}
			wantTake(t, m, i, api.OK)
			wantTake(t, m, -1, api.ErrFull)
		}
		wantLike(t, m, l)
	}
}

// TestTakeLeast is P10.2: what is held is left out, and what is given comes again, the least first.
func TestTakeLeast(t *testing.T) {
	m := mapOf(t, holding(20, 0, 1, 3, 7, 8, 9, 19))
	for _, want := range []int{2, 4, 5, 6, 10} {
		wantTake(t, m, want, api.OK)
	}
	for _, i := range []int{9, 1, 8, 19} {
		wantErr(t, "Give", i, m.Give(i), api.OK)
	}
	for _, want := range []int{1, 8, 9, 11, 12, 13, 14, 15, 16, 17, 18, 19} {
		wantTake(t, m, want, api.OK)
	}
	wantTake(t, m, -1, api.ErrFull)
}

// TestHoldEach is P10.2 of each home alone: it is taken, once, and no other one.
func TestHoldEach(t *testing.T) {
	for _, n := range counts {
		for i := range n {
			m := newMap(t, n)
			wantErr(t, "Hold", i, m.Hold(i), api.OK)
			wantLike(t, m, holding(n, i))
			wantErr(t, "Hold", i, m.Hold(i), api.ErrThere)
			wantErr(t, "Give", i, m.Give(i), api.OK)
			wantErr(t, "Give", i, m.Give(i), api.ErrNone)
			wantErr(t, "Hold", i, m.Hold(i), api.OK)
			wantLike(t, m, holding(n, i))
		}
	}
}

// TestGiveEach is P10.2 of each home of a map that is full: it is free, once, and no other one.
func TestGiveEach(t *testing.T) {
	for _, n := range counts {
		full := mapOf(t, holding(n, every(n)...))
		for i := range n {
			l := holding(n, every(n)...)
			l[i] = false
			m := full.Copy()
			wantErr(t, "Give", i, m.Give(i), api.OK)
			wantLike(t, m, l)
			wantErr(t, "Give", i, m.Give(i), api.ErrNone)
			wantLike(t, m, l)
		}
	}
}

// TestNoHome is P10.2: Hold and Give of what is no home are ErrArg, and change nothing.
func TestNoHome(t *testing.T) {
	for _, n := range counts {
		for _, l := range []model{holding(n), holding(n, every(n)...), holding(n, n/2)} {
			m := mapOf(t, l)
			for _, i := range noHomes(n) {
				wantErr(t, "Hold", i, m.Hold(i), api.ErrArg)
				wantErr(t, "Give", i, m.Give(i), api.ErrArg)
			}
			wantLike(t, m, l)
		}
	}
}

// TestThereAndNone is P10.2: an error changes nothing.
func TestThereAndNone(t *testing.T) {
	l := holding(21, 0, 2, 8, 15, 20)
	m := mapOf(t, l)
	for i, taken := range l {
		if taken {
			wantErr(t, "Hold", i, m.Hold(i), api.ErrThere)
		} else {
			wantErr(t, "Give", i, m.Give(i), api.ErrNone)
		}
		wantLike(t, m, l)
	}
}

// TestCopy is P10.2: another map of the same, and what is done with one does nothing to the other.
func TestCopy(t *testing.T) {
	for _, n := range counts {
		for _, l := range []model{holding(n), holding(n, every(n)...), holding(n, 0), holding(n, n-1), holding(n, n/2)} {
			m := mapOf(t, l)
			c := m.Copy()
			if c == m {
				t.Fatal("Copy answers the map itself")
			}
			wantLike(t, c, l)
			wantTurned(t, c, m, l)
			wantTurned(t, m, m.Copy().Copy(), l)
		}
	}
}

// wantTurned fails the test unless each home of a map can be turned round while the other map stays like a model, as both were.
func wantTurned(t *testing.T, m, stays *alloc.Map, l model) {
	t.Helper()
	turned := slices.Clone(l)
	for i, taken := range l {
		turned[i] = !taken
		if taken {
			wantErr(t, "Give", i, m.Give(i), api.OK)
		} else {
			wantErr(t, "Hold", i, m.Hold(i), api.OK)
		}
	}
	wantLike(t, m, turned)
	wantLike(t, stays, l)
	for want := slices.Clone(turned); ; {
		i, err := want.take()
		wantTake(t, m, i, err)
		if err != api.OK {
			break
		}
	}
	wantLike(t, stays, l)
}

// TestNoMap is R1: of a map that is nil, or that no call made, there is nothing; and it stays so.
func TestNoMap(t *testing.T) {
	for _, m := range []*alloc.Map{nil, {}, new(alloc.Map)} {
		for _, i := range append(noHomes(1), 0, 1, 2, 41, 1023) {
			if m.Has(i) {
				t.Errorf("Has(%d) is true", i)
			}
			wantErr(t, "Hold", i, m.Hold(i), api.ErrNil)
			wantErr(t, "Give", i, m.Give(i), api.ErrNil)
		}
		wantTake(t, m, -1, api.ErrNil)
		if n := m.Free(); n != 0 {
			t.Errorf("Free: %d", n)
		}
		if m.Copy() != nil {
			t.Error("Copy answers a map")
		}
		if b := m.Bytes(); len(b) != 0 {
			t.Errorf("Bytes: %x", b)
		}
		wantTake(t, m, -1, api.ErrNil)
	}
}

// TestByChance is P10.1 to P10.4 of calls by chance, against a model: what was taken is not taken again ahead of Give.
func TestByChance(t *testing.T) {
	r := rand.New(rand.NewSource(5))
	for range 60 {
		n := counts[r.Intn(len(counts))]
		if r.Intn(2) == 0 {
			n = 1 + r.Intn(40)
		}
		m, l := newMap(t, n), holding(n)
		takes := r.Intn(4)
		for range 400 {
			i := r.Intn(n+4) - 2
			switch r.Intn(3 + takes) {
			case 0:
				wantErr(t, "Hold", i, m.Hold(i), l.hold(i))
			case 1:
				wantErr(t, "Give", i, m.Give(i), l.give(i))
			case 2:
				m = again(t, m, n)
			default:
				i, e := l.take()
				wantTake(t, m, i, e)
			}
			if r.Intn(10) == 0 {
				wantLike(t, m, l)
			}
		}
		wantLike(t, m, l)
	}
}

// again answers a map by way of its copy and its bytes.
func again(t *testing.T, m *alloc.Map, n int) *alloc.Map {
	t.Helper()
	b := m.Copy().Bytes()
	c, e := alloc.Load(b, n)
	if c == nil || e != api.OK {
		t.Fatalf("Load(%x, %d): error %d", b, n, e)
	}
	if !bytes.Equal(c.Bytes(), b) || c.Free() != m.Free() {
		t.Fatalf("Load(%x, %d): a map of %x, %d free, want %d", b, n, c.Bytes(), c.Free(), m.Free())
	}
	return c
}
