package clock_test

import (
	"math"
	"slices"
	"strconv"
	"testing"

	"tenancy/api"
	"tenancy/clock"
)

// place is what a place is.
type place struct{ used, pinned, marked bool }

// model is a ring told without the package: what each place is, one by one, and where the hand is.
type model struct {
	places []place
	hand   int
}

// free answers a model of n free places.
func free(n int) *model { return &model{places: make([]place, n)} }

// spelt answers a model by letters, one a place: . is free, u used, m marked, too, p pinned, b both.
func spelt(letters string, hand int) *model {
	m := &model{hand: hand}
	for _, c := range letters {
		m.places = append(m.places, place{used: c != '.', pinned: c == 'p' || c == 'b', marked: c == 'm' || c == 'b'})
	}
	return m
}

// String spells a model.
func (m *model) String() string {
	var b []byte
	for _, p := range m.places {
		switch {
		case !p.used:
			b = append(b, '.')
		case p.pinned && p.marked:
			b = append(b, 'b')
		case p.pinned:
			b = append(b, 'p')
		case p.marked:
			b = append(b, 'm')
		default:
			b = append(b, 'u')
		}
	}
	return string(b) + ", hand " + strconv.Itoa(m.hand)
}

// copy answers another model of the same.
func (m *model) copy() *model { return &model{slices.Clone(m.places), m.hand} }

// those answers at which places something holds, rising.
func (m *model) those(holds func(place) bool) []int {
	var l []int
	for i, p := range m.places {
		if holds(p) {
			l = append(l, i)
		}
	}
	return l
}

// used answers which places are used.
func (m *model) used() []int { return m.those(func(p place) bool { return p.used }) }

// pinned answers which places are pinned.
func (m *model) pinned() []int { return m.those(func(p place) bool { return p.pinned }) }

// next answers which place is to be given up. It is told without going around a second time: those that are not pinned stand in a row from the hand on, of which the first without a mark is it, or else the first; all ahead of it lose their marks, or else all.
func (m *model) next() (int, api.Errno) {
	if l := m.those(func(p place) bool { return !p.used }); len(l) > 0 {
		return l[0], api.OK
	}
	l := m.those(func(p place) bool { return !p.pinned })
	if len(l) == 0 {
		return -1, api.ErrFull
	}
	at := 0
	for at < len(l) && l[at] < m.hand {
		at++
	}
	row := append(slices.Clone(l[at:]), l[:at]...)
	k := row[0]
	for _, i := range row {
		if !m.places[i].marked {
			k = i
			break
		}
		m.places[i].marked = false
	}
	m.hand = k + 1
	if m.hand == len(m.places) {
		m.hand = 0
	}
	return k, api.OK
}

// Kinds of deeds.
const (
	use = iota
	drop
	touch
	pin
	unpin
	next
)

// deed is a call on a ring: of a kind, with place i (but next, which has none).
type deed struct{ kind, i int }

// String tells a deed.
func (d deed) String() string {
	return []string{"Use", "Drop", "Touch", "Pin", "Unpin", "Next"}[d.kind] + " " + strconv.Itoa(d.i)
}

// on does a deed on a ring.
func (d deed) on(r *clock.Ring) (int, api.Errno) {
	switch d.kind {
	case use:
		return 0, r.Use(d.i)
	case drop:
		return 0, r.Drop(d.i)
	case touch:
		return 0, r.Touch(d.i)
	case pin:
		return 0, r.Pin(d.i)
	case unpin:
		return 0, r.Unpin(d.i)
	}
	return r.Next()
}

// told does a deed on a model.
func (d deed) told(m *model) (int, api.Errno) {
	if d.kind == next {
		return m.next()
	}
	if d.i < 0 || len(m.places) <= d.i {
		return 0, api.ErrArg
	}
	p := &m.places[d.i]
	if !p.used && (d.kind == touch || d.kind == pin) {
		return 0, api.ErrNone
	}
	switch d.kind {
	case use:
		*p = place{used: true, marked: true}
	case drop:
		*p = place{}
	case touch:
		p.marked = true
	case pin:
		p.pinned = true
	case unpin:
		p.pinned = false
	}
	return 0, api.OK
}

// counts are how many places a test's rings have: the edges, those of words and bytes, and some between.
var counts = []int{1, 2, 3, 4, 7, 8, 9, 15, 16, 17, 31, 32, 33, 47, 62, 63, 64}

// noPlaces answers numbers of which a ring of n places has none.
func noPlaces(n int) []int {
	return []int{-1, -2, -n, -n - 1, -31, -32, -33, -63, -64, -65, -128, n, n + 1, 2 * n, 64, 65, 64 + n, 127, 128, 256, 1 << 32, 1<<32 + 1, -1 << 32, math.MaxInt32, math.MinInt32, math.MaxInt, math.MaxInt - 63, math.MinInt, math.MinInt + 1}
}

// newRing answers a ring of n free places.
func newRing(t *testing.T, n int) *clock.Ring {
	t.Helper()
	r, e := clock.New(n)
	if r == nil || e != api.OK {
		t.Fatalf("New(%d): error %d", n, e)
	}
	return r
}

// ringOf answers a ring like a model, whatever that is: all places are used, the hand goes once around, so that no marks are left, and on to where it is to be.
func ringOf(t *testing.T, m *model) *clock.Ring {
	t.Helper()
	n := len(m.places)
	r, l := newRing(t, n), free(n)
	for i := range n {
		wantDeed(t, r, l, deed{use, i})
	}
	for range n + m.hand {
		wantDeed(t, r, l, deed{kind: next})
	}
	for i, p := range m.places {
		if !p.used {
			wantDeed(t, r, l, deed{drop, i})
		}
		if p.marked {
			wantDeed(t, r, l, deed{touch, i})
		}
		if p.pinned {
			wantDeed(t, r, l, deed{pin, i})
		}
	}
	if l.String() != m.String() {
		t.Fatalf("the test lays %s, not %s", l, m)
	}
	wantLike(t, r, m)
	return r
}

// wantDeed fails the test unless a deed on a ring answers what it does on a model.
func wantDeed(t *testing.T, r *clock.Ring, m *model, d deed) {
	was := m.copy()
	want, err := d.told(m)
	if k, e := d.on(r); k != want || e != err {
		t.Helper()
		t.Fatalf("of %s, %s: %d, error %d, want %d, error %d", was, d, k, e, want, err)
	}
}

// wantLike fails the test unless what a ring tells is a model's.
func wantLike(t *testing.T, r *clock.Ring, m *model) {
	used, pinned, hand := r.Used(), r.Pinned(), r.Hand()
	if !slices.Equal(used, m.used()) || !slices.Equal(pinned, m.pinned()) || hand != m.hand {
		t.Helper()
		t.Fatalf("of %s: used %d, pinned %d, the hand at %d", m, used, pinned, hand)
	}
}

// wantGoesOn fails the test unless a ring goes on as a model does: its Next, twice around.
func wantGoesOn(t *testing.T, r *clock.Ring, m *model) {
	t.Helper()
	for range 2*len(m.places) + 1 {
		wantDeed(t, r, m, deed{kind: next})
		wantLike(t, r, m)
	}
}

// marksShown answers deeds behind which all places are used, and none is pinned, and all are marked as they were, but for those that were free and perhaps one more: so what Next answers from there on shows the marks.
func marksShown(m *model, one int) []deed {
	var l []deed
	for i, p := range m.places {
		if !p.used {
			l = append(l, deed{use, i})
		}
		l = append(l, deed{unpin, i})
	}
	if one >= 0 {
		l = append(l, deed{touch, one})
	}
	return l
}

// wantSame fails the test unless a ring is as a model in all that can be seen of it from here on. The ring is made anew by a function as often as it is looked at.
func wantSame(t *testing.T, again func() *clock.Ring, m *model) {
	t.Helper()
	wantLike(t, again(), m)
	wantGoesOn(t, again(), m.copy())
	// Where all are marked it is as where none is, till one is marked more.
	for one := -1; one < len(m.places); one++ {
		r, l := again(), m.copy()
		for _, d := range marksShown(m, one) {
			wantDeed(t, r, l, d)
		}
		wantGoesOn(t, r, l)
	}
}
