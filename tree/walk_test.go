package tree_test

import (
	"strings"
	"testing"

	"tenancy/api"
	"tenancy/fstore"
)

// walked answers a store that has /f, /d, /d/e, /d/e/f, /d/g, and directories /1 to /1/../8.
func walked(t testing.TB) (*fstore.Store, map[string]api.File) {
	t.Helper()
	s := newStore(t)
	l := map[string]api.File{"/": root}
	l["/f"] = create(t, s, root, "f", api.KFile)
	l["/d"] = create(t, s, root, "d", api.KDir)
	l["/d/e"] = create(t, s, l["/d"], "e", api.KDir)
	l["/d/e/f"] = create(t, s, l["/d/e"], "f", api.KFile)
	l["/d/g"] = create(t, s, l["/d"], "g", api.KFile)
	in, path := root, ""
	for _, word := range strings.Fields("1 2 3 4 5 6 7 8") {
		path += "/" + word
		l[path] = create(t, s, in, word, api.KDir)
		in = l[path]
	}
	return s, l
}

// TestWalk is P12.2 of what is there.
func TestWalk(t *testing.T) {
	s, l := walked(t)
	for path, f := range l {
		kind := api.KDir
		if strings.HasSuffix(path, "f") || strings.HasSuffix(path, "g") {
			kind = api.KFile
		}
		wantWalk(t, s, path, f, kind)
	}
	wantErr(t, "Remove", s.Remove(root, "f"), api.OK)
	wantNoWalk(t, s, "/f", api.ErrNone)
	wantWalk(t, s, "/f", create(t, s, root, "f", api.KDir), api.KDir)
	wantErr(t, "Rename", s.Rename(l["/d"], "e", root, "f"), api.OK)
	wantWalk(t, s, "/f", l["/d/e"], api.KDir)
	wantWalk(t, s, "/f/f", l["/d/e/f"], api.KFile)
	wantNoWalk(t, s, "/d/e", api.ErrNone)
	wantNoWalk(t, s, "/d/e/f", api.ErrNone)
}

// noPaths are texts that are no paths; of some the first names are there, of some they are not.
var noPaths = []string{
	"", "d", "d/e", " ", "/ ", "//", "/d/", "//d", "/d//e", "/.", "/..", "/d/.", "/d/..", "/d/./e", "/d/../d", "/no/..", "/no/", "/f/", "/f/.", "/f/x/", "/d/e ", "/d/\x00", "/d/\xff", "/d/\u00e9",
	"/" + strings.Repeat("x", 17), "/d/" + strings.Repeat("x", 17), "/f/" + strings.Repeat("x", 17), "/1/2/3/4/5/6/7/8/9", "/no/2/3/4/5/6/7/8/9", "/f/2/3/4/5/6/7/8/9", strings.Repeat("/d", 1<<20), strings.Repeat("x", 1<<20),
}

// TestWalkNoPath is P12.2: ErrName of what is no path, ahead of all else.
func TestWalkNoPath(t *testing.T) {
	s, _ := walked(t)
	for _, path := range noPaths {
		wantNoWalk(t, s, path, api.ErrName)
	}
}

// TestWalkNotThere is P12.2: the error of Lookup at the first name that is not there.
func TestWalkNotThere(t *testing.T) {
	s, _ := walked(t)
	for path, want := range map[string]api.Errno{
		"/no": api.ErrNone, "/D": api.ErrNone, "/e": api.ErrNone, "/dd": api.ErrNone, "/d!": api.ErrNone, "/...": api.ErrNone, "/" + strings.Repeat("x", 16): api.ErrNone,
		"/no/f": api.ErrNone, "/no/d/e/f": api.ErrNone, "/d/d": api.ErrNone, "/d/f": api.ErrNone, "/d/no/f": api.ErrNone, "/d/e/e": api.ErrNone, "/d/e/no/x/y": api.ErrNone, "/1/1": api.ErrNone, "/2": api.ErrNone, "/1/2/3/4/5/6/7/9": api.ErrNone,
		"/f/x": api.ErrKind, "/f/f": api.ErrKind, "/f/x/y/z": api.ErrKind, "/d/g/g": api.ErrKind, "/d/e/f/no": api.ErrKind, "/d/e/f/1/2/3/4/5": api.ErrKind,
	} {
		wantNoWalk(t, s, path, want)
	}
}

// TestWalkNoStore is R1: ErrNil of no store, whatever the path.
func TestWalkNoStore(t *testing.T) {
	for _, s := range []*fstore.Store{nil, {}, new(fstore.Store)} {
		for _, path := range append([]string{"/", "/d", "/d/e", "/no/x"}, noPaths...) {
			wantNoWalk(t, s, path, api.ErrNil)
		}
	}
}
