package name_test

import (
	"math/rand"
	"slices"
	"strings"
	"testing"

	"tenancy/name"
)

// isUnder tells whether a path is below another one, in another way than the program does.
func isUnder(a, b string) bool {
	if !isPath(a) || !isPath(b) || a == b {
		return false
	}
	return b == "/" || strings.HasPrefix(a, b+"/")
}

// wantUnder fails the test unless Under tells so of two texts.
func wantUnder(t *testing.T, a, b string, want bool) {
	t.Helper()
	if got := name.Under(a, b); got != want {
		t.Errorf("Under(%.200q, %.200q): %t, want %t", a, b, got, want)
	}
}

// TestUnder is P7.3 of paths that are below one.
func TestUnder(t *testing.T) {
	for _, c := range [][2]string{
		{"/a", "/"}, {"/a/b", "/"}, {"/a/b", "/a"}, {"/a/b/c", "/a"}, {"/a/b/c", "/a/b"}, {"/a/a", "/a"}, {"/a/a/a", "/a/a"}, {"/a/ab", "/a"},
		{"/1/2/3/4/5/6/7/8", "/"}, {"/1/2/3/4/5/6/7/8", "/1"}, {"/1/2/3/4/5/6/7/8", "/1/2/3/4/5/6/7"},
		{strings.Repeat("/"+long, 8), strings.Repeat("/"+long, 7)},
	} {
		wantUnder(t, c[0], c[1], true)
		wantUnder(t, c[1], c[0], false)
	}
}

// TestUnderOthers is P7.3 of paths that are not below one.
func TestUnderOthers(t *testing.T) {
	for _, c := range [][2]string{
		{"/", "/"}, {"/a", "/a"}, {"/a/b", "/a/b"}, {"/a", "/b"}, {"/ab", "/a"}, {"/ab/c", "/a"}, {"/a/b", "/ab"}, {"/a/b", "/b"}, {"/a/b/c", "/b"}, {"/a/b/c", "/b/c"}, {"/a/b/c", "/a/c"}, {"/a/b/c", "/b/a"},
		{"/a/b/c", "/a/bc"}, {"/a/bc", "/a/b"}, {"/A/b", "/a"}, {"/a/b/c/d", "/a/x/c"}, {"/x/b/c/d", "/a/b/c"}, {"/a/b/x/d", "/a/b/c"}, {"/1/2/3/4/5/6/7/8", "/1/2/3/4/5/6/7/8"}, {"/1/2/3/4/5/6/7/9", "/1/2/3/4/5/6/7/8"},
	} {
		wantUnder(t, c[0], c[1], false)
		wantUnder(t, c[1], c[0], false)
	}
}

// TestUnderWrong is P7.3 of texts of which one, or each, is no path.
func TestUnderWrong(t *testing.T) {
	for _, c := range [][2]string{
		{"", ""}, {"", "/"}, {"/", ""}, {"/a", ""}, {"/a/b", ""}, {"a/b", ""}, {"a", "/"}, {"a/b", "/"}, {"a/b", "a"}, {"a/b", "/a"}, {"/a/b", "a"}, {"/a/b", "/a/"}, {"/a/", "/a"}, {"/a/", "/"}, {"//", "/"}, {"//a", "/"}, {"/a//b", "/a"},
		{"/a/.", "/a"}, {"/a/..", "/a"}, {"/.", "/"}, {"/./a", "/."}, {"/../a", "/.."}, {"/a/ ", "/a"}, {"/a/\xff", "/a"}, {"/ /a", "/ "}, {"/a/b", "//"}, {"/a/b", " "}, {"/a/b", "/a//"},
		{"/1/2/3/4/5/6/7/8/9", "/"}, {"/1/2/3/4/5/6/7/8/9", "/1"}, {"/1/2/3/4/5/6/7/8/9", "/1/2/3/4/5/6/7/8"}, {"/1/2/3/4/5/6/7/8/9/10", "/1/2/3/4/5/6/7/8/9"},
		{"/a/" + long + "g", "/a"}, {"/" + long + "g/a", "/" + long + "g"}, {"/" + long + "g", "/" + long}, {strings.Repeat("/a", 1<<20), "/a"}, {"/a", strings.Repeat("/a", 1<<20)},
	} {
		wantUnder(t, c[0], c[1], false)
		wantUnder(t, c[1], c[0], false)
	}
}

// TestUnderEachTwo is P7.3 of all two short texts.
func TestUnderEachTwo(t *testing.T) {
	l := texts("/.a", 5)
	for _, a := range l {
		for _, b := range l {
			wantUnder(t, a, b, isUnder(a, b))
		}
	}
}

// TestUnderByChance is P7.3 of long paths by chance that begin with the same names.
func TestUnderByChance(t *testing.T) {
	r := rand.New(rand.NewSource(4))
	for range 20000 {
		l := someNames(r, 8)
		n := r.Intn(len(l) + 1)
		m := slices.Concat(l[:n], someNames(r, 8-n))
		a, b := name.Join(l), name.Join(m)
		wantUnder(t, a, b, isUnder(a, b))
		wantUnder(t, a, name.Join(l[:n]), n < len(l))
	}
}

// TestUnderIsAnOrder is P7.4: nothing is under itself, no two are under each other, and what is under one that is under a third is under that.
func TestUnderIsAnOrder(t *testing.T) {
	var l []string
	for _, p := range append(texts("/ab", 6), "/1/2/3/4/5/6/7/8", "/1/2/3/4/5/6/7", "/1/2/3/4", "/1") {
		if isPath(p) {
			l = append(l, p)
		}
	}
	below := map[string][]string{}
	for _, a := range l {
		wantUnder(t, a, a, false)
		wantUnder(t, a, "/", a != "/")
		for _, b := range l {
			if name.Under(a, b) {
				wantUnder(t, b, a, false)
				below[b] = append(below[b], a)
			}
		}
	}
	for top, middles := range below {
		for _, middle := range middles {
			for _, low := range below[middle] {
				wantUnder(t, low, top, true)
			}
		}
	}
}
