package clock_test

import (
	"math"
	"slices"
	"strings"
	"testing"

	"tenancy/api"
	"tenancy/clock"
)

// wrongCounts are how many places no ring has.
var wrongCounts = []int{0, -1, -2, -63, -64, -65, 65, 66, 127, 128, 256, 1024, 1 << 32, 1<<32 + 1, 1<<32 + 64, math.MaxInt, math.MaxInt - 63, math.MinInt, math.MinInt + 1, math.MinInt + 64}

// TestNew is P13.1: 1 to 64 places, all of them free, unpinned, unmarked, the hand at 0.
func TestNew(t *testing.T) {
	for n := 1; n <= 64; n++ {
		wantSame(t, func() *clock.Ring { return newRing(t, n) }, free(n))
	}
}

// TestNewWrong is P13.1: nil and ErrArg of any other number.
func TestNewWrong(t *testing.T) {
	for _, n := range wrongCounts {
		if r, e := clock.New(n); r != nil || e != api.ErrArg {
			t.Errorf("New(%d): a ring: %t, error %d, want none and error %d", n, r != nil, e, api.ErrArg)
		}
	}
}

// TestNewApart is R4: what is done with a ring does nothing to another one.
func TestNewApart(t *testing.T) {
	m := spelt("mpb.u", 3)
	r := ringOf(t, m)
	wantLike(t, newRing(t, 5), free(5))
	other := ringOf(t, spelt("....b", 1))
	wantLike(t, r, m)
	wantLike(t, other, spelt("....b", 1))
	wantGoesOn(t, r, m)
	wantGoesOn(t, other, spelt("....b", 1))
}

// states are what a place may be.
var states = []string{".", "u", "m", "p", "b"}

// TestEachPlace is P13.1 of each place: the five calls, of a place in each of its states, have it as the chapter says, and no other one, whether these have nothing or all.
func TestEachPlace(t *testing.T) {
	want := map[int]map[string]string{
		use:   {".": "m", "u": "m", "m": "m", "p": "m", "b": "m"},
		drop:  {".": ".", "u": ".", "m": ".", "p": ".", "b": "."},
		touch: {".": none, "u": "m", "m": "m", "p": "b", "b": "b"},
		pin:   {".": none, "u": "p", "m": "b", "p": "p", "b": "b"},
		unpin: {".": ".", "u": "u", "m": "m", "p": "u", "b": "m"},
	}
	for _, n := range []int{1, 2, 3, 9, 33, 64} {
		for i := range n {
			for _, others := range []string{".", "b"} {
				for kind, becomes := range want {
					for was, is := range becomes {
						wantBecomes(t, deed{kind, i}, among(n, i, others, was), among(n, i, others, is))
					}
				}
			}
		}
	}
}

// none stands where a call has no such place to do with: it is ErrNone, and the place stays free.
const none = "-"

// among spells n places of which one is so and the others are otherwise.
func among(n, i int, others, own string) string {
	return strings.Repeat(others, i) + own + strings.Repeat(others, n-1-i)
}

// wantBecomes fails the test unless a deed has a ring that was so become this.
func wantBecomes(t *testing.T, d deed, was, is string) {
	t.Helper()
	err := api.OK
	if strings.Contains(is, none) {
		is, err = was, api.ErrNone
	}
	n, hand := len(was), d.i
	r, m := ringOf(t, spelt(was, hand)), spelt(is, hand)
	if _, e := d.on(r); e != err {
		t.Fatalf("of %s, %s: error %d, want %d", was, d, e, err)
	}
	wantLike(t, r, m)
	for _, d := range marksShown(m, (d.i+n/2)%n) {
		wantDeed(t, r, m, d)
	}
	wantGoesOn(t, r, m)
}

// TestNoPlace is P13.1: all five calls of what is no place are ErrArg, and change nothing.
func TestNoPlace(t *testing.T) {
	for _, n := range counts {
		for _, others := range states {
			m := spelt(strings.Repeat(others, n), n-1)
			r := ringOf(t, m)
			for _, i := range noPlaces(n) {
				for kind := use; kind < next; kind++ {
					if _, e := (deed{kind, i}).on(r); e != api.ErrArg {
						t.Fatalf("of %d places, %s: error %d, want %d", n, deed{kind, i}, e, api.ErrArg)
					}
				}
			}
			wantLike(t, r, m)
			for _, d := range marksShown(m, n/2) {
				wantDeed(t, r, m, d)
			}
			wantGoesOn(t, r, m)
		}
	}
}

// TestFreeOne is P13.1: Touch and Pin of a free place are ErrNone, and change nothing; Unpin and Drop are OK.
func TestFreeOne(t *testing.T) {
	for _, n := range counts {
		r := newRing(t, n)
		for i := range n {
			for _, c := range []struct {
				kind int
				want api.Errno
			}{{touch, api.ErrNone}, {pin, api.ErrNone}, {unpin, api.OK}, {drop, api.OK}} {
				if _, e := (deed{c.kind, i}).on(r); e != c.want {
					t.Errorf("of %d free places, %s: error %d, want %d", n, deed{c.kind, i}, e, c.want)
				}
			}
		}
		m := free(n)
		wantLike(t, r, m)
		wantGoesOn(t, r, m)
	}
}

// TestLists is P13.2: Used and Pinned are rising, in whatever order places were used and pinned.
func TestLists(t *testing.T) {
	r := newRing(t, 64)
	for _, i := range []int{63, 7, 32, 0, 31, 8} {
		if e := r.Use(i); e != api.OK {
			t.Fatal(e)
		}
	}
	for _, i := range []int{32, 63, 0} {
		if e := r.Pin(i); e != api.OK {
			t.Fatal(e)
		}
	}
	if l := r.Used(); !slices.Equal(l, []int{0, 7, 8, 31, 32, 63}) {
		t.Errorf("Used: %d", l)
	}
	if l := r.Pinned(); !slices.Equal(l, []int{0, 32, 63}) {
		t.Errorf("Pinned: %d", l)
	}
}

// TestListsApart is R3: Used and Pinned answer new memory.
func TestListsApart(t *testing.T) {
	for _, n := range counts {
		m := spelt(strings.Repeat("b", n), n/2)
		r := ringOf(t, m)
		lists := [][]int{r.Used(), r.Pinned(), r.Used(), r.Pinned()}
		for i, l := range lists {
			for j := range l[:cap(l)] {
				l[:cap(l)][j] = -1 - i
			}
			for _, other := range lists[i+1:] {
				if !slices.Equal(other, m.used()) {
					t.Fatal("two lists share memory")
				}
			}
		}
		wantLike(t, r, m)
	}
}

// TestNoRing is R1: of a ring that is nil, or that New did not make, there is nothing; and it stays so.
func TestNoRing(t *testing.T) {
	for _, r := range []*clock.Ring{nil, {}, new(clock.Ring)} {
		for range 2 {
			for _, i := range append(noPlaces(1), 0, 1, 2, 31, 32, 63) {
				for kind := use; kind < next; kind++ {
					if _, e := (deed{kind, i}).on(r); e != api.ErrNil {
						t.Errorf("%s: error %d, want %d", deed{kind, i}, e, api.ErrNil)
					}
				}
			}
			if k, e := r.Next(); k != -1 || e != api.ErrNil {
				t.Errorf("Next: %d, error %d, want -1, error %d", k, e, api.ErrNil)
			}
			if l := r.Used(); len(l) != 0 {
				t.Errorf("Used: %d", l)
			}
			if l := r.Pinned(); len(l) != 0 {
				t.Errorf("Pinned: %d", l)
			}
			if i := r.Hand(); i != 0 {
				t.Errorf("Hand: %d", i)
			}
		}
	}
}
