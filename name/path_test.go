package name_test

import (
	"math/rand"
	"regexp"
	"runtime"
	"slices"
	"strings"
	"testing"
	"unsafe"

	"tenancy/api"
	"tenancy/name"
)

// likePath is what a path looks like; . and .. look like names in it, and are none.
var likePath = regexp.MustCompile(`\A(/|(/[!-.0-~]{1,16}){1,8})\z`)

// likeNone is what . or .. look like in it.
var likeNone = regexp.MustCompile(`/\.\.?(/|\z)`)

// isPath tells whether a text is a path, in another way than the program does.
func isPath(p string) bool { return likePath.MatchString(p) && !likeNone.MatchString(p) }

// wantSplit fails the test unless a path has these names.
func wantSplit(t *testing.T, p string, want ...string) {
	t.Helper()
	if l, e := name.Split(p); e != api.OK || !slices.Equal(l, want) {
		t.Errorf("Split(%q): %q, error %d, want %q", p, l, e, want)
	}
}

// wantNoPath fails the test unless a text is no path.
func wantNoPath(t *testing.T, p string) {
	t.Helper()
	if l, e := name.Split(p); e != api.ErrName || len(l) != 0 {
		t.Errorf("Split(%.200q): %q, error %d, want none and error %d", p, l, e, api.ErrName)
	}
}

// wantJoin fails the test unless names have this path.
func wantJoin(t *testing.T, want string, l ...string) {
	t.Helper()
	if p := name.Join(l); p != want {
		t.Errorf("Join(%q): %q, want %q", l, p, want)
	}
}

// namesOf answers the names of what is known to be a path.
func namesOf(p string) []string { return strings.FieldsFunc(p, func(c rune) bool { return c == '/' }) }

// texts answers all texts of at most n of these bytes.
func texts(from string, n int) []string {
	all, last := []string{""}, []string{""}
	for range n {
		var next []string
		for _, s := range last {
			for i := range len(from) {
				next = append(next, s+from[i:i+1])
			}
		}
		all, last = append(all, next...), next
	}
	return all
}

// someNames answers names by chance, at most this many.
func someNames(r *rand.Rand, most int) []string {
	l := make([]string, r.Intn(most+1))
	for i := range l {
		for !isName(l[i]) {
			l[i] = someText(r, nameBytes, 1+r.Intn(16))
		}
	}
	return l
}

// long is a name of as many bytes as may be.
const long = "0123456789abcdef"

// TestSplit is P7.2 of paths.
func TestSplit(t *testing.T) {
	wantSplit(t, "/")
	wantSplit(t, "/a", "a")
	wantSplit(t, "/a/b", "a", "b")
	wantSplit(t, "/b/a", "b", "a")
	wantSplit(t, "/a/a/a", "a", "a", "a")
	wantSplit(t, "/.../..a/.b/c.", "...", "..a", ".b", "c.")
	wantSplit(t, `/\/!/~`, `\`, "!", "~")
	wantSplit(t, "/1/2/3/4/5/6/7", "1", "2", "3", "4", "5", "6", "7")
	wantSplit(t, "/1/2/3/4/5/6/7/8", "1", "2", "3", "4", "5", "6", "7", "8")
	wantSplit(t, "/"+long, long)
	wantSplit(t, strings.Repeat("/"+long, 8), long, long, long, long, long, long, long, long)
}

// TestSplitWrong is P7.2 of texts that are no paths.
func TestSplitWrong(t *testing.T) {
	for _, p := range []string{
		"", "a", "a/", "a/b", "a/b/", ".", "..", " ", " /", "/ ", "//", "///", "/a/", "/a//", "//a", "/a//b", "/a/b/", "/a/b//c",
		"/.", "/..", "/./a", "/a/.", "/a/..", "/a/./b", "/../a", "/a/../b", " /a", "/a /b", "/ a", "/a/b ", "/a\n", "\n/a", "/\x00", "/a\x7f", "/a/\x80", "/\u00e9", "\\a", "\u2215a", "\uff0fa",
		"/1/2/3/4/5/6/7/8/", "/1/2/3/4/5/6/7/8/9", "/1/2/3/4/5/6/7/8/9/", "/1/2/3/4/5/6/7/8//", "/1/2/3/4/5/6/7/8/9/10", "1/2/3/4/5/6/7/8", "1/2/3/4/5/6/7/8/9", "x/1/2/3/4/5/6/7/8",
		"/" + long + "g", "/a/" + long + "g", "/" + long + "g/a", strings.Repeat("/"+long, 9), strings.Repeat("/"+long, 8) + "g", strings.Repeat("/"+long, 8) + "/", strings.Repeat("/"+long, 8)[1:],
	} {
		wantNoPath(t, p)
	}
}

// TestSplitLong is P7.2 of texts that are far too long.
func TestSplitLong(t *testing.T) {
	for _, p := range []string{"/", "a", "/a", "a/", "/.", "//a"} {
		for _, n := range []int{1 << 8, 1 << 16, 1 << 22} {
			wantNoPath(t, strings.Repeat(p, n))
			wantNoPath(t, "/"+strings.Repeat(p, n))
		}
	}
}

// TestSplitTakesLittle is R1: a text may have 2^31 - 1 bytes, so that a list of all that stands between its slashes may find no room.
func TestSplitTakesLittle(t *testing.T) {
	for _, one := range []string{"/", "/a", "a"} {
		p := strings.Repeat(one, 1<<22)
		var ahead, behind runtime.MemStats
		runtime.ReadMemStats(&ahead)
		wantNoPath(t, p)
		runtime.ReadMemStats(&behind)
		if took := behind.TotalAlloc - ahead.TotalAlloc; took > 1<<20 {
			t.Errorf("Split of %d bytes, each %q, takes %d", len(p), one, took)
		}
	}
}

// TestJoin is P7.2 of names that are a path's.
func TestJoin(t *testing.T) {
	wantJoin(t, "/")
	wantJoin(t, "/", []string{}...)
	wantJoin(t, "/a", "a")
	wantJoin(t, "/a/b", "a", "b")
	wantJoin(t, "/b/a", "b", "a")
	wantJoin(t, "/a/a", "a", "a")
	wantJoin(t, "/.../.a", "...", ".a")
	wantJoin(t, "/1/2/3/4/5/6/7", "1", "2", "3", "4", "5", "6", "7")
	wantJoin(t, "/1/2/3/4/5/6/7/8", "1", "2", "3", "4", "5", "6", "7", "8")
	wantJoin(t, strings.Repeat("/"+long, 8), slices.Repeat([]string{long}, 8)...)
}

// TestJoinWrong is P7.2 of names that are no path's: what is none at each place, and too many.
func TestJoinWrong(t *testing.T) {
	for _, s := range []string{"", ".", "..", "/", "/a", "a/", "a/b", " ", "a b", "\x00", "\x7f", "\xff", "\u00e9", long + "g"} {
		for n := 1; n <= 9; n++ {
			for at := range n {
				l := slices.Repeat([]string{"a"}, n)
				l[at] = s
				wantJoin(t, "", l...)
			}
		}
	}
	for _, n := range []int{9, 10, 16, 17, 255, 256, 264, 1 << 14} {
		wantJoin(t, "", slices.Repeat([]string{"a"}, n)...)
		wantJoin(t, "", slices.Repeat([]string{""}, n)...)
	}
}

// wantLikeModel fails the test unless Split answers of a text what it looks like.
func wantLikeModel(t *testing.T, p string) {
	t.Helper()
	if isPath(p) {
		wantSplit(t, p, namesOf(p)...)
		return
	}
	wantNoPath(t, p)
}

// TestSplitEachText is P7.2 of all short texts.
func TestSplitEachText(t *testing.T) {
	for _, p := range texts("/.a\x80", 8) {
		wantLikeModel(t, p)
	}
	for _, p := range texts("/a", 16) {
		wantLikeModel(t, p)
	}
}

// TestSplitByChance is P7.2 of paths by chance, and of what they are with a byte changed, put in or left out.
func TestSplitByChance(t *testing.T) {
	r := rand.New(rand.NewSource(2))
	for range 50000 {
		p := name.Join(someNames(r, 8))
		wantLikeModel(t, p)
		at := r.Intn(len(p))
		one := someText(r, "//..a \x7f\xff", 1)
		wantLikeModel(t, p[:at]+one+p[at+1:])
		wantLikeModel(t, p[:at]+one+p[at:])
		wantLikeModel(t, p[:at]+p[at+1:])
	}
}

// TestThereAndBack is P7.4: a path there and back is the same, and so are names.
func TestThereAndBack(t *testing.T) {
	r := rand.New(rand.NewSource(3))
	for range 20000 {
		l := someNames(r, 8)
		p := name.Join(l)
		if p == "" || strings.Count(p, "/") != max(1, len(l)) {
			t.Fatalf("Join(%q): %q", l, p)
		}
		wantSplit(t, p, l...)
		wantJoin(t, p, l...)
		back, _ := name.Split(p)
		wantJoin(t, p, back...)
	}
	for _, p := range texts("/.b", 9) {
		if l, e := name.Split(p); e == api.OK {
			wantJoin(t, p, l...)
		}
	}
}

// TestJoinLeavesNames is R3: names that are handed in stay, also those that are no path's, and what stands behind them.
func TestJoinLeavesNames(t *testing.T) {
	for _, l := range [][]string{{"a", "b", "c"}, {"a", "", "c"}, {"/", "..", "a"}} {
		kept := slices.Clone(l)
		for n := range len(l) + 1 {
			name.Join(l[:n])
			if !slices.Equal(l, kept) {
				t.Fatalf("Join changed %q to %q", kept, l)
			}
		}
	}
}

// TestSplitAnswersNewMemory is R3: what is done to an answer changes no other one.
func TestSplitAnswersNewMemory(t *testing.T) {
	one, _ := name.Split("/a/b")
	two, _ := name.Split("/a/b")
	one[0], one[1] = "x", "y"
	_ = append(one[:1], "z", "z")
	if !slices.Equal(two, []string{"a", "b"}) {
		t.Errorf("an answer was changed by way of another one: %q", two)
	}
	wantSplit(t, "/a/b", "a", "b")
	none, _ := name.Split("/")
	_ = append(none, "x")
	wantSplit(t, "/")
}

// sharesMemory tells whether a text that is not empty lies within another one.
func sharesMemory(part, whole string) bool {
	at, from := uintptr(unsafe.Pointer(unsafe.StringData(part))), uintptr(unsafe.Pointer(unsafe.StringData(whole)))
	return at >= from && at < from+uintptr(len(whole))
}

// TestAnswersShareNoText is R3 of texts: an answer keeps nothing of what was handed in.
func TestAnswersShareNoText(t *testing.T) {
	for _, l := range [][]string{{"a"}, {"a", "b"}, {long}, slices.Repeat([]string{long}, 8)} {
		p := name.Join(l)
		for _, s := range l {
			if sharesMemory(s, p) || sharesMemory(p, s) {
				t.Errorf("Join(%q) shares memory with a name", l)
			}
		}
		answer, _ := name.Split(p)
		for _, s := range answer {
			if sharesMemory(s, p) {
				t.Errorf("Split(%q) shares memory with the path", p)
			}
		}
	}
}
