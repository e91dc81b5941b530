package msg_test

import (
	"math/rand"
	"slices"
	"strings"
	"testing"

	"tenancy/api"
	"tenancy/msg"
)

// wantSame fails the test unless Same tells so of two messages, either way.
func wantSame(t *testing.T, a, b api.Message, want bool) {
	t.Helper()
	if got := msg.Same(a, b); got != want {
		t.Errorf("Same(%s, %s): %t, want %t", brief(a), brief(b), got, want)
	}
	if got := msg.Same(b, a); got != want {
		t.Errorf("Same(%s, %s): %t, want %t", brief(b), brief(a), got, want)
	}
}

// whole answers a message each of whose fields is set.
func whole() api.Message {
	return api.Message{
		Type: 1, Client: 2, Session: 3, Seq: 4, Boot: 5, Kind: 6, Err: 7,
		File: api.File{Ino: 8, Gen: 9}, Dir: api.File{Ino: 10, Gen: 11},
		Name: "a", Other: "b", Mode: 12, At: 13, Data: "c", Version: 14,
		Entries: counted(3),
	}
}

// apart answers a message that is the same, with no memory in common.
func apart(m api.Message) api.Message {
	m.Name, m.Other, m.Data = strings.Clone(m.Name), strings.Clone(m.Other), strings.Clone(m.Data)
	m.Entries = slices.Clone(m.Entries)
	for i := range m.Entries {
		m.Entries[i].Name = strings.Clone(m.Entries[i].Name)
	}
	return m
}

// changes are, of each field, and each part of an entry, a change of whole's to another value.
var changes = []setter{
	func(m *api.Message) { m.Type++ },
	func(m *api.Message) { m.Client++ },
	func(m *api.Message) { m.Session++ },
	func(m *api.Message) { m.Seq++ },
	func(m *api.Message) { m.Boot++ },
	func(m *api.Message) { m.Kind++ },
	func(m *api.Message) { m.Err++ },
	func(m *api.Message) { m.File.Ino++ },
	func(m *api.Message) { m.File.Gen++ },
	func(m *api.Message) { m.Dir.Ino++ },
	func(m *api.Message) { m.Dir.Gen++ },
	func(m *api.Message) { m.Name += "z" },
	func(m *api.Message) { m.Other += "z" },
	func(m *api.Message) { m.Mode++ },
	func(m *api.Message) { m.At++ },
	func(m *api.Message) { m.Data += "\x00" },
	func(m *api.Message) { m.Version++ },
	func(m *api.Message) { m.Entries = append(slices.Clip(m.Entries), api.Entry{}) },
}

// TestSameField is P16.2: each field alone makes another message, of any messages, right or not.
func TestSameField(t *testing.T) {
	for _, m := range append(right(), whole(), api.Message{}) {
		wantSame(t, m, m, true)
		wantSame(t, m, apart(m), true)
		for _, change := range changes {
			x := apart(m)
			change(&x)
			wantSame(t, m, x, false)
			wantSame(t, x, apart(x), true)
		}
	}
}

// TestSameFar is P16.2: numbers are the same as a whole, not by their last bits.
func TestSameFar(t *testing.T) {
	for _, m := range append(right(), whole(), api.Message{}) {
		for i := range 64 {
			for _, change := range []setter{
				func(m *api.Message) { m.Type ^= 1 << i },
				func(m *api.Message) { m.Client ^= 1 << i },
				func(m *api.Message) { m.Session ^= 1 << i },
				func(m *api.Message) { m.Seq ^= 1 << i },
				func(m *api.Message) { m.Boot ^= 1 << i },
				func(m *api.Message) { m.Kind ^= 1 << i },
				func(m *api.Message) { m.Err ^= 1 << i },
				func(m *api.Message) { m.File.Ino ^= 1 << i },
				func(m *api.Message) { m.File.Gen ^= 1 << i },
				func(m *api.Message) { m.Dir.Ino ^= 1 << i },
				func(m *api.Message) { m.Dir.Gen ^= 1 << i },
				func(m *api.Message) { m.Mode ^= 1 << i },
				func(m *api.Message) { m.At ^= 1 << i },
				func(m *api.Message) { m.Version ^= 1 << i },
			} {
				x := m
				change(&x)
				wantSame(t, m, x, false)
			}
		}
	}
}

// TestSameEntries is P16.2: entry by entry, in their order, part by part; nil is like a list of none.
func TestSameEntries(t *testing.T) {
	wantSame(t, listing(nil), listing([]api.Entry{}), true)
	wantSame(t, listing(nil), listing(counted(3)[:0]), true)
	wantSame(t, listing(nil), listing([]api.Entry{{}}), false)
	wantSame(t, listing([]api.Entry{{}}), listing([]api.Entry{{}, {}}), false)
	for n := 1; n <= 30; n++ {
		l := counted(n)
		wantSame(t, listing(l), listing(counted(n)), true)
		wantSame(t, listing(l), listing(l[:n-1]), false)
		wantSame(t, listing(l), listing(l[1:]), false)
		for at := range n {
			for _, change := range []func(e *api.Entry){
				func(e *api.Entry) { e.Name += "z" },
				func(e *api.Entry) { e.Name = "" },
				func(e *api.Entry) { e.File.Ino += 1 << 32 },
				func(e *api.Entry) { e.File.Gen++ },
				func(e *api.Entry) { e.Kind = 3 - e.Kind },
				func(e *api.Entry) { e.Kind = -e.Kind },
			} {
				x := counted(n)
				change(&x[at])
				wantSame(t, listing(l), listing(x), false)
			}
			if at > 0 {
				x := counted(n)
				x[at], x[at-1] = x[at-1], x[at]
				wantSame(t, listing(l), listing(x), false)
			}
		}
	}
}

// TestSameInPlace is P16.2: what two fields have turned round, or one in place of another one, is not the same.
func TestSameInPlace(t *testing.T) {
	f, g := api.File{Ino: 2, Gen: 1}, api.File{Ino: 1, Gen: 2}
	wantSame(t, api.Message{File: f, Dir: g}, api.Message{File: g, Dir: f}, false)
	wantSame(t, api.Message{File: f}, api.Message{Dir: f}, false)
	wantSame(t, api.Message{File: f}, api.Message{File: g}, false)
	wantSame(t, api.Message{Name: "a", Other: "b"}, api.Message{Name: "b", Other: "a"}, false)
	wantSame(t, api.Message{Name: "ab"}, api.Message{Name: "a", Other: "b"}, false)
	wantSame(t, api.Message{Other: "a"}, api.Message{Data: "a"}, false)
	wantSame(t, api.Message{Session: 1, Seq: 2, Boot: 3}, api.Message{Session: 2, Seq: 1, Boot: 3}, false)
	wantSame(t, api.Message{Session: 1, Seq: 2, Boot: 3}, api.Message{Session: 1, Seq: 3, Boot: 2}, false)
	wantSame(t, api.Message{Mode: 1, At: 2}, api.Message{Mode: 2, At: 1}, false)
	wantSame(t, api.Message{Type: 1}, api.Message{Kind: 1}, false)
	wantSame(t, api.Message{Kind: 1}, api.Message{Err: 1}, false)
	wantSame(t, api.Message{Version: 1}, api.Message{Boot: 1}, false)
}

// TestSameTexts is P16.2: texts are the same byte by byte.
func TestSameTexts(t *testing.T) {
	texts := []string{"", "a", "A", "aa", "a\x00", "\x00", "\xff", "\ufffd", "e\u0301", "\u00e9", long, strings.Repeat("a", 1<<16)}
	for i, a := range texts {
		for j, b := range texts {
			wantSame(t, api.Message{Name: a}, api.Message{Name: b}, i == j)
			wantSame(t, api.Message{Other: a}, api.Message{Other: b}, i == j)
			wantSame(t, api.Message{Data: a}, api.Message{Data: b}, i == j)
			wantSame(t, listing([]api.Entry{{Name: a}}), listing([]api.Entry{{Name: b}}), i == j)
		}
	}
}

// TestSameOfEach is P16.2 of each two of the right ones: no two of them are the same.
func TestSameOfEach(t *testing.T) {
	for i, a := range right() {
		for j, b := range right() {
			wantSame(t, a, b, i == j)
		}
	}
}

// TestSameByChance is P16.2 of messages of which few fields differ.
func TestSameByChance(t *testing.T) {
	r := rand.New(rand.NewSource(6))
	for range 200000 {
		a := chance(r)
		b := apart(a)
		for range r.Intn(3) {
			l := allEdges[r.Intn(len(allEdges))]
			l[r.Intn(len(l))](&b)
		}
		wantSame(t, a, b, areSame(a, b))
	}
}
