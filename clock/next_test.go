package clock_test

import (
	"math/rand"
	"slices"
	"strings"
	"testing"

	"tenancy/api"
	"tenancy/clock"
)

// TestNextExample is the chapter's example.
func TestNextExample(t *testing.T) {
	r := newRing(t, 3)
	for i := range 3 {
		if e := r.Use(i); e != api.OK {
			t.Fatal(e)
		}
	}
	if k, e := r.Next(); k != 0 || e != api.OK || r.Hand() != 1 {
		t.Errorf("Next: %d, error %d, the hand at %d, want 0 and 1", k, e, r.Hand())
	}
	// Of marks that are gone one that is laid anew tells: it alone is passed over.
	if e := r.Touch(1); e != api.OK {
		t.Fatal(e)
	}
	for _, want := range []int{2, 0, 1, 2} {
		if k, e := r.Next(); k != want || e != api.OK || r.Hand() != (want+1)%3 {
			t.Errorf("Next: %d, error %d, the hand at %d, want %d", k, e, r.Hand(), want)
		}
	}
}

// TestNextByHand is P13.2 of rings written out by hand: ahead, where the hand is, which one it is, and what is behind it.
func TestNextByHand(t *testing.T) {
	for _, c := range []struct {
		ahead  string
		hand   int
		want   int
		behind string
		at     int
	}{
		{".", 0, 0, ".", 0},
		{"u", 0, 0, "u", 0},
		{"m", 0, 0, "u", 0},
		{"p", 0, -1, "p", 0},
		{"b", 0, -1, "b", 0},
		// The least free one: neither marks nor the hand change.
		{"mmm.", 0, 3, "mmm.", 0},
		{".m.m", 2, 0, ".m.m", 2},
		{"bu..", 3, 2, "bu..", 3},
		{"ppp.", 1, 3, "ppp.", 1},
		{"uu.u", 0, 2, "uu.u", 0},
		{"....", 2, 0, "....", 2},
		// All are pinned: nothing changes.
		{"pppp", 2, -1, "pppp", 2},
		{"bpbb", 1, -1, "bpbb", 1},
		{"bbbb", 3, -1, "bbbb", 3},
		// The first one from the hand on that is neither.
		{"uuuu", 0, 0, "uuuu", 1},
		{"uuuu", 2, 2, "uuuu", 3},
		{"uuuu", 3, 3, "uuuu", 0},
		{"ummu", 1, 3, "uuuu", 0},
		{"ummu", 0, 0, "ummu", 1},
		{"mmum", 3, 2, "uuuu", 3},
		{"ummm", 2, 0, "umuu", 1},
		// What is pinned is passed over, and keeps its mark.
		{"pbum", 0, 2, "pbum", 3},
		{"mbpu", 0, 3, "ubpu", 0},
		{"bmbu", 1, 3, "bubu", 0},
		{"upbb", 1, 0, "upbb", 1},
		{"mpbb", 1, 0, "upbb", 1},
		{"bpmp", 3, 2, "bpup", 3},
		{"bbbm", 3, 3, "bbbu", 0},
		{"bmbm", 2, 3, "bubu", 0},
		{"pmpm", 0, 1, "pupu", 2},
		// All are marked: the hand goes around once, and no marks are left.
		{"mmmm", 0, 0, "uuuu", 1},
		{"mmmm", 1, 1, "uuuu", 2},
		{"mmmm", 3, 3, "uuuu", 0},
		{"mmbm", 2, 3, "uubu", 0},
		{"bmmm", 0, 1, "buuu", 2},
	} {
		err := api.OK
		if c.want < 0 {
			err = api.ErrFull
		}
		wantSame(t, func() *clock.Ring {
			r := ringOf(t, spelt(c.ahead, c.hand))
			if k, e := r.Next(); k != c.want || e != err {
				t.Fatalf("of %s, hand %d, Next: %d, error %d, want %d, error %d", c.ahead, c.hand, k, e, c.want, err)
			}
			return r
		}, spelt(c.behind, c.at))
	}
}

// TestEachOfSmallRings is P13.1 to P13.3 of all rings of at most four places, and each call on them.
func TestEachOfSmallRings(t *testing.T) {
	for n := 1; n <= 4; n++ {
		deeds := []deed{{kind: next}}
		for kind := use; kind < next; kind++ {
			for i := -1; i <= n; i++ {
				deeds = append(deeds, deed{kind, i})
			}
		}
		for _, letters := range texts(n) {
			for hand := range n {
				was := spelt(letters, hand)
				for _, d := range deeds {
					m := was.copy()
					d.told(m)
					wantSame(t, func() *clock.Ring {
						r := ringOf(t, was)
						wantDeed(t, r, was.copy(), d)
						return r
					}, m)
				}
				wantRight(t, ringOf(t, was), was)
			}
		}
	}
}

// texts answers all texts of n letters of states.
func texts(n int) []string {
	l := []string{""}
	for range n {
		var more []string
		for _, s := range l {
			for _, c := range states {
				more = append(more, s+c)
			}
		}
		l = more
	}
	return l
}

// wantRight fails the test unless a ring's Next, which was as a model, is P13.3's: no pinned place, and none that was marked, if one was neither.
func wantRight(t *testing.T, r *clock.Ring, was *model) {
	t.Helper()
	k, e := r.Next()
	if e == api.ErrFull && k == -1 {
		return
	}
	if e != api.OK || k < 0 || len(was.places) <= k {
		t.Fatalf("of %s, Next: %d, error %d", was, k, e)
	}
	if was.places[k].pinned {
		t.Fatalf("of %s, Next: %d, which is pinned", was, k)
	}
	if was.places[k].marked && slices.ContainsFunc(was.places, func(p place) bool { return !p.marked && !p.pinned }) {
		t.Fatalf("of %s, Next: %d, which is marked", was, k)
	}
}

// TestNextLeastFree is P13.2: the least free one, wherever free ones are, whatever the others are.
func TestNextLeastFree(t *testing.T) {
	for _, n := range counts {
		for _, others := range []string{"u", "m", "p", "b"} {
			for i := range n {
				b := []byte(strings.Repeat(others, n))
				b[i] = '.'
				wantNext(t, spelt(string(b), n-1), i, api.OK, n-1)
				for more := i; more < n; more += 5 {
					b[more] = '.'
				}
				wantNext(t, spelt(string(b), n/2), i, api.OK, n/2)
			}
		}
	}
}

// TestNextFull is P13.2: ErrFull, if all are pinned, and just then: where one is not, wherever it is and the hand, that is it.
func TestNextFull(t *testing.T) {
	for _, n := range counts {
		for _, others := range []string{"p", "b"} {
			for i := range n {
				all := strings.Repeat(others, n)
				wantNext(t, spelt(all, i), -1, api.ErrFull, i)
				for _, own := range []string{"u", "m"} {
					for _, hand := range []int{0, i, (i + 1) % n, n - 1} {
						wantNext(t, spelt(all[:i]+own+all[i+1:], hand), i, api.OK, (i+1)%n)
					}
				}
			}
		}
	}
}

// TestNextAround is P13.2: of places that are all alike the hand gives up one behind the other, and behind the last one the first.
func TestNextAround(t *testing.T) {
	for _, n := range counts {
		for _, alike := range []string{"u", "m"} {
			for hand := range n {
				r := ringOf(t, spelt(strings.Repeat(alike, n), hand))
				for i := range 2*n + 1 {
					k, e := r.Next()
					if want := (hand + i) % n; k != want || e != api.OK || r.Hand() != (want+1)%n {
						t.Fatalf("of %d places, hand %d, Next %d: %d, error %d, the hand at %d, want %d", n, hand, i, k, e, r.Hand(), want)
					}
				}
			}
		}
	}
}

// TestNextTheOnlyOne is P13.2: of places that are marked but one, that is it, and those that were passed over alone have lost their marks.
func TestNextTheOnlyOne(t *testing.T) {
	for _, n := range counts {
		for i := range n {
			for _, hand := range []int{0, i, (i + 1) % n, n - 1} {
				b := []byte(strings.Repeat("m", n))
				b[i] = 'u'
				r := ringOf(t, spelt(string(b), hand))
				k, e := r.Next()
				if k != i || e != api.OK {
					t.Fatalf("of %s, hand %d, Next: %d, error %d, want %d", b, hand, k, e, i)
				}
				for at := hand; at != i; at = (at + 1) % n {
					b[at] = 'u'
				}
				m := spelt(string(b), (i+1)%n)
				wantLike(t, r, m)
				wantGoesOn(t, r, m)
			}
		}
	}
}

// wantNext fails the test unless the Next of a ring like a model answers this, and has the hand be there; which places are used, and pinned, stays.
func wantNext(t *testing.T, m *model, want int, err api.Errno, hand int) {
	t.Helper()
	r := ringOf(t, m)
	if k, e := r.Next(); k != want || e != err {
		t.Fatalf("of %s, Next: %d, error %d, want %d, error %d", m, k, e, want, err)
	}
	wantLike(t, r, &model{m.places, hand})
}

// TestByChance is P13.1 and P13.2 of calls by chance, on rings in a state by chance, against a model.
func TestByChance(t *testing.T) {
	r := rand.New(rand.NewSource(13))
	for range 600 {
		n := counts[r.Intn(len(counts))]
		m := spelt(lettersBy(r, n, "uuummmpb."[:7+r.Intn(3)]), r.Intn(n))
		ring := ringOf(t, m)
		kinds := weighed(r)
		for range 600 {
			d := deed{kinds[r.Intn(len(kinds))], r.Intn(n)}
			if r.Intn(40) == 0 {
				d.i = noPlaces(n)[r.Intn(len(noPlaces(n)))]
			}
			wantDeed(t, ring, m, d)
			wantLike(t, ring, m)
		}
		wantGoesOn(t, ring, m)
	}
}

// lettersBy answers n letters by chance, of these.
func lettersBy(r *rand.Rand, n int, of string) string {
	b := make([]byte, n)
	for i := range b {
		b[i] = of[r.Intn(len(of))]
	}
	return string(b)
}

// weighed answers kinds of deeds, each of them as often as chance has it, but Drop seldom or never: so that rings are full as often as not.
func weighed(r *rand.Rand) []int {
	l := []int{use, next, next}
	for kind := use; kind <= next; kind++ {
		often := r.Intn(6)
		if kind == drop {
			often = r.Intn(2)
		}
		for range often {
			l = append(l, kind)
		}
	}
	return l
}

// TestNextMarkedLater is P13.3 of marks and pins by chance: of a ring that is full all that have neither are given up ahead of what was marked, one behind the other from the hand on, and no pinned one ever.
func TestNextMarkedLater(t *testing.T) {
	r := rand.New(rand.NewSource(14))
	for range 2000 {
		n := counts[r.Intn(len(counts))]
		b, hand := lettersBy(r, n, "umpb"), r.Intn(n)
		var first []int
		for i := range n {
			if at := (hand + i) % n; b[at] == 'u' {
				first = append(first, at)
			}
		}
		ring := ringOf(t, spelt(string(b), hand))
		for _, want := range first {
			if k, e := ring.Next(); k != want || e != api.OK {
				t.Fatalf("of %s, hand %d, Next: %d, error %d, want %d of %d", b, hand, k, e, want, first)
			}
		}
		for range 2 * n {
			if k, _ := ring.Next(); k >= 0 && (b[k] == 'p' || b[k] == 'b') {
				t.Fatalf("of %s, hand %d, Next: %d, which is pinned", b, hand, k)
			}
		}
	}
}
