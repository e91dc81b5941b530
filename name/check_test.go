package name_test

import (
	"math/rand"
	"regexp"
	"strings"
	"testing"

	"tenancy/api"
	"tenancy/name"
)

// nameBytes are all that a name may have, spelt out: 33 to 126, but for the slash.
const nameBytes = "!\"#$%&'()*+,-.0123456789:;<=>?@ABCDEFGHIJKLMNOPQRSTUVWXYZ[\\]^_`abcdefghijklmnopqrstuvwxyz{|}~"

// likeName is what a name looks like; . and .. look like it, and are none.
var likeName = regexp.MustCompile(`\A[!-.0-~]{1,16}\z`)

// isName tells whether a text is a name, in another way than the program does.
func isName(s string) bool { return likeName.MatchString(s) && s != "." && s != ".." }

// wantCheck fails the test unless Check tells so of a text.
func wantCheck(t *testing.T, s string, isOne bool) {
	t.Helper()
	want := api.ErrName
	if isOne {
		want = api.OK
	}
	if e := name.Check(s); e != want {
		t.Errorf("Check(%.200q): error %d, want %d", s, e, want)
	}
}

// someText answers a text of n bytes of these.
func someText(r *rand.Rand, from string, n int) string {
	b := make([]byte, n)
	for i := range b {
		b[i] = from[r.Intn(len(from))]
	}
	return string(b)
}

// TestCheck is P7.1 of texts that are names.
func TestCheck(t *testing.T) {
	for _, s := range []string{
		"a", "Z", "0", "!", "~", "-", "ab", "a.b", "README.md", `\`, `a\b`, "{}", "*", "?",
		"...", "....", ".a", "a.", "..a", "a..", ".a.", "~.", "-.", "................", "0123456789abcdef",
	} {
		wantCheck(t, s, true)
	}
}

// TestCheckWrong is P7.1 of texts that are none.
func TestCheckWrong(t *testing.T) {
	for _, s := range []string{
		"", ".", "..", "/", "//", "a/", "/a", "a/b", "./", "/.", "../..", " ", "  ", "a b", " a", "a ", "\t", "a\n", "\x00", "a\x00", "\x1f", "\x7f", "a\x7f",
		"\x80", "\xff", "a\xff", "\xc3", "\xe2\x82", "\xc0\xaf", "\xc1\x81", "\u00e9", "a\u00e9", "\u0101", "\u0161", "\u2030", "\ufffd", "\uff41", "\U0001f600", "\U00010061",
		"0123456789abcdefg",
	} {
		wantCheck(t, s, false)
	}
}

// TestCheckLengths is P7.1 of each length about the edges; what counts is bytes.
func TestCheckLengths(t *testing.T) {
	for n := range 40 {
		wantCheck(t, strings.Repeat("x", n), n >= 1 && n <= 16)
		wantCheck(t, strings.Repeat(".", n), n >= 3 && n <= 16)
		wantCheck(t, strings.Repeat("\u00e9", n), false)
	}
	for _, n := range []int{127, 128, 255, 256, 257, 272, 65536, 65552, 1 << 24} {
		wantCheck(t, strings.Repeat("x", n), false)
		wantCheck(t, strings.Repeat(".", n), false)
	}
}

// TestCheckEachByte is P7.1 of each byte, alone and at each place of names of each length.
func TestCheckEachByte(t *testing.T) {
	for c := range 256 {
		one := string([]byte{byte(c)})
		ok := strings.Contains(nameBytes, one)
		wantCheck(t, one, ok && c != '.')
		for n := 2; n <= 16; n++ {
			for at := range n {
				wantCheck(t, strings.Repeat("a", at)+one+strings.Repeat("b", n-1-at), ok)
			}
		}
	}
}

// TestCheckEachPair is P7.1 of each two bytes: some are one character.
func TestCheckEachPair(t *testing.T) {
	for c := range 1 << 16 {
		s := string([]byte{byte(c >> 8), byte(c)})
		wantCheck(t, s, strings.Contains(nameBytes, s[:1]) && strings.Contains(nameBytes, s[1:]) && s != "..")
	}
}

// TestCheckEachRune is P7.1 of each character, among others as well.
func TestCheckEachRune(t *testing.T) {
	for c := rune(0); c <= 0x10ffff; c++ {
		s := string(c)
		ok := strings.Contains(nameBytes, s)
		wantCheck(t, s, ok && c != '.')
		wantCheck(t, "x"+s+"y", ok)
	}
}

// TestCheckByChance is P7.1 of texts by chance, against what a name looks like.
func TestCheckByChance(t *testing.T) {
	r := rand.New(rand.NewSource(1))
	for range 50000 {
		n := r.Intn(19)
		s := someText(r, nameBytes, n)
		if r.Intn(2) == 0 && n > 0 {
			at := r.Intn(n)
			s = s[:at] + string([]byte{byte(r.Intn(256))}) + s[at+1:]
		}
		wantCheck(t, s, isName(s))
	}
}
