package wire_test

import (
	"bytes"
	"encoding/hex"
	"math"
	"math/rand"
	"slices"
	"strings"
	"testing"

	"tenancy/api"
	"tenancy/wire"
)

// head answers a message with these, and nothing else.
func head(typ, client int, session, seq, boot uint64, kind int, e api.Errno) api.Message {
	return api.Message{Type: typ, Client: client, Session: session, Seq: seq, Boot: boot, Kind: kind, Err: e}
}

// with answers a message that was changed.
func with(m api.Message, set func(m *api.Message)) api.Message {
	set(&m)
	return m
}

// TestBytes is P17.1 and P17.2 of bytes written out by hand.
func TestBytes(t *testing.T) {
	f := api.File{Ino: 2, Gen: 1}
	top := api.File{Ino: 1}
	const asked = "40 0000000008 0000000010 00000000"
	const told = "80 0000000008 0000000010 00000000"
	for _, c := range []struct {
		m api.Message
		b string
	}{
		{head(1, 7, maxCount, 1, 0, 1, 0), "7f fffffffff8 0000000008 0000000000 80"},
		{head(2, 0, 1, 1, 1, 1, 0), "80 0000000008 0000000008 0000000008 80"},
		{head(2, 3, 4, 5, 6, 9, 25), "98 0000000020 0000000028 0000000034 e4"},
		{with(head(3, 0, 1, 0, 1, 0, 0), func(m *api.Message) { m.File = f }), "c0 0000000008 0000000000 0000000008 00 20000000 20"},
		{
			with(head(3, 7, maxCount, 0, maxCount, 0, 0), func(m *api.Message) { m.File = api.File{Ino: 40, Gen: math.MaxInt32} }),
			"ff fffffffff8 0000000007 fffffffff8 02 8fffffff e0",
		},
		{
			with(head(1, 1, 2, 3, 4, 3, 0), func(m *api.Message) { m.Dir, m.Name = top, "a" }),
			"48 0000000010 0000000018 0000000021 80 10000000 00 00 2c20",
		},
		{
			with(head(2, 1, 2, 3, 4, 3, 0), func(m *api.Message) { m.File, m.Mode = f, 2 }),
			"88 0000000010 0000000018 0000000021 80 20000000 30",
		},
		{
			with(head(1, 1, 2, 3, 4, 4, 0), func(m *api.Message) { m.Dir, m.Name, m.Mode = top, "ab", 1 }),
			"48 0000000010 0000000018 0000000022 00 10000000 00 00 4c2c48",
		},
		{
			with(head(1, 7, 1, 2, 3, 6, 0), func(m *api.Message) {
				m.File, m.Dir, m.Name, m.Other = api.File{Ino: 3, Gen: 4}, api.File{Ino: 1, Gen: 2}, "a", "bc"
			}),
			"78 0000000008 0000000010 000000001b 00 30000000 80 80000002 0001 61 0002 6263",
		},
		{head(2, 0, 1, 2, 3, 7, 0), told + "1b 80 00"},
		{
			with(head(2, 0, 1, 2, 3, 7, 0), func(m *api.Message) {
				m.Entries = []api.Entry{{Name: "a", File: f, Kind: 1}, {Name: "b", File: api.File{Ino: 3}, Kind: 2}}
			}),
			told + "1b 80 40 002c 21 00000001 40 0058 83 00000001 00",
		},
		{with(head(2, 0, 1, 2, 3, 8, 0), func(m *api.Message) { m.Version = maxCount }), told + "1c 03 fffffffffc"},
		{with(head(1, 0, 1, 2, 3, 9, 0), func(m *api.Message) { m.File, m.At = f, 5 }), asked + "1c 80 20000000 34"},
		{with(head(2, 0, 1, 2, 3, 9, 0), func(m *api.Message) { m.Data, m.Version = "hello", 9 }), told + "1c 80 0015 a195b1b1bc 0000000024"},
		{head(2, 0, 1, 2, 3, 9, 0), told + "1c 80 0000 0000000000"},
		{
			with(head(1, 0, 1, 2, 3, 10, 0), func(m *api.Message) { m.File, m.At, m.Data = f, 7, "\x00\xff" }),
			asked + "1d 00 20000000 3c 0008 03fc",
		},
		{with(head(1, 0, 1, 2, 3, 13, 0), func(m *api.Message) { m.File, m.Mode = f, 2 }), asked + "1e 80 20000000 30"},
	} {
		b, err := hex.DecodeString(strings.ReplaceAll(c.b, " ", ""))
		if err != nil {
			t.Fatal(err)
		}
		wantEncode(t, c.m, b, api.OK)
		wantDecode(t, b, c.m, api.OK)
	}
}

// TestEachShape is P17.1 and P17.2 of each Type and Kind, with what is told and with each error.
func TestEachShape(t *testing.T) {
	for _, src := range []api.Message{least, middle, most} {
		for _, s := range shapes {
			for src.Err = range api.Errno(28) {
				wantBoth(t, s.cut(src))
			}
		}
	}
}

// edges are values about the edges of each field, and where a number cut to its bits may be a right one.
var edges = struct {
	ints   []int
	gens   []int
	counts []uint64
	texts  []string
}{
	[]int{math.MinInt, -64, -16, -8, -1, 0, 1, 2, 3, 4, 7, 8, 9, 14, 15, 16, 17, 25, 26, 31, 32, 40, 41, 63, 64, 65, 257, 1 << 32, 1<<32 + 1, math.MaxInt},
	[]int{math.MinInt, math.MinInt32, -1, 0, 1, math.MaxInt32 - 1, math.MaxInt32, 1 << 31, 1<<31 + 1, 1 << 32, 1<<32 + 1, math.MaxInt},
	[]uint64{0, 1, 2, 255, 256, 1 << 32, maxCount - 1, maxCount, maxCount + 1, maxCount + 2, 1 << 63, math.MaxUint64},
	[]string{"", "a", "\x00", ".", "..", "...", "a/b", "/", " ", "~", "\x7f", "\xff", strings.Repeat("n", 15), strings.Repeat("n", 16), strings.Repeat("n", 17), strings.Repeat("d", 63), strings.Repeat("d", 64), strings.Repeat("d", 65), strings.Repeat("x", 1<<16-1), strings.Repeat("x", 1<<16), strings.Repeat("x", 1<<16+1), strings.Repeat("x", 1<<20)},
}

// eachEdge calls a function with messages of which one field is at one of its edges.
func eachEdge(m api.Message, f func(m api.Message)) {
	for _, p := range []func(m *api.Message) *int{
		func(m *api.Message) *int { return &m.Type },
		func(m *api.Message) *int { return &m.Client },
		func(m *api.Message) *int { return &m.Kind },
		func(m *api.Message) *int { return &m.File.Ino },
		func(m *api.Message) *int { return &m.Dir.Ino },
		func(m *api.Message) *int { return &m.Mode },
		func(m *api.Message) *int { return &m.At },
	} {
		eachValue(m, edges.ints, p, f)
	}
	for _, n := range edges.ints {
		f(with(m, func(m *api.Message) { m.Err = api.Errno(n) }))
	}
	eachValue(m, edges.gens, func(m *api.Message) *int { return &m.File.Gen }, f)
	eachValue(m, edges.gens, func(m *api.Message) *int { return &m.Dir.Gen }, f)
	for _, p := range []func(m *api.Message) *uint64{
		func(m *api.Message) *uint64 { return &m.Session },
		func(m *api.Message) *uint64 { return &m.Seq },
		func(m *api.Message) *uint64 { return &m.Boot },
		func(m *api.Message) *uint64 { return &m.Version },
	} {
		eachValue(m, edges.counts, p, f)
	}
	for _, p := range []func(m *api.Message) *string{
		func(m *api.Message) *string { return &m.Name },
		func(m *api.Message) *string { return &m.Other },
		func(m *api.Message) *string { return &m.Data },
	} {
		eachValue(m, edges.texts, p, f)
	}
	eachValue(m, someEntries(), func(m *api.Message) *[]api.Entry { return &m.Entries }, f)
}

// eachValue calls a function with messages that have each of these values at a place.
func eachValue[T any](m api.Message, l []T, place func(m *api.Message) *T, f func(m api.Message)) {
	for _, v := range l {
		x := m
		*place(&x) = v
		f(x)
	}
}

// someEntries are lists of entries, right ones and wrong ones.
func someEntries() [][]api.Entry {
	f := api.File{Ino: 2, Gen: 1}
	return [][]api.Entry{
		nil,
		{},
		counted(1, 1),
		counted(5, 16),
		counted(23, 7),
		counted(24, 2),
		counted(25, 2),
		counted(31, 2),
		counted(32, 2),
		counted(33, 2),
		counted(1000, 8),
		counted(2, 17),
		{{}},
		{{Name: "b", File: f, Kind: 1}, {Name: "a", File: f, Kind: 1}},
		{{Name: "a", File: f, Kind: 1}, {Name: "a", File: f, Kind: 1}},
		{{Name: "a", File: f, Kind: 0}},
		{{Name: "a", File: f, Kind: 3}},
		{{Name: "a", File: f, Kind: 5}},
		{{Name: "a", File: api.File{Ino: 41}, Kind: 1}},
		{{Name: "a", File: api.File{Ino: 65}, Kind: 1}},
		{{Name: "a", File: api.File{Ino: 1, Gen: 1 << 31}, Kind: 1}},
		{{Name: "a", File: api.File{Ino: 1, Gen: -1}, Kind: 1}},
	}
}

// TestEdges is P17.1: each edge of each field of each message has its bytes, or none and the error.
func TestEdges(t *testing.T) {
	for _, m := range right(least, middle, most) {
		eachEdge(m, func(m api.Message) { wantBoth(t, m) })
	}
}

// TestEncodeWrong is P17.1: of what is not right there are no bytes.
func TestEncodeWrong(t *testing.T) {
	wantEncode(t, api.Message{}, nil, api.ErrForm)
	for i, spoil := range []func(m *api.Message){
		func(m *api.Message) { m.Type = 0 },
		func(m *api.Message) { m.Type += 4 },
		func(m *api.Message) { m.Client = 8 },
		func(m *api.Message) { m.Client = -1 },
		func(m *api.Message) { m.Session = 0 },
		func(m *api.Message) { m.Session = 1 << 40 },
		func(m *api.Message) { m.Seq = 1 << 40 },
		func(m *api.Message) { m.Boot = 1 << 40 },
		func(m *api.Message) { m.Kind += 16 },
		func(m *api.Message) { m.Kind = 15 },
		func(m *api.Message) { m.Err = 26 },
		func(m *api.Message) { m.Err = -1 },
		func(m *api.Message) { m.File = api.File{Ino: 41} },
		func(m *api.Message) { m.Dir = api.File{Gen: 1} },
		func(m *api.Message) { m.Name = "." },
		func(m *api.Message) { m.Other = "a b" },
		func(m *api.Message) { m.Mode = 3 },
		func(m *api.Message) { m.At = 8 },
		func(m *api.Message) { m.Data = strings.Repeat("a", 65) },
		func(m *api.Message) { m.Version = 1 << 40 },
		func(m *api.Message) { m.Entries = counted(25, 2) },
	} {
		for _, m := range right(least, middle, most) {
			spoil(&m)
			if b, e := wire.Encode(m); e != api.ErrForm || len(b) != 0 {
				t.Errorf("wrong part %d: Encode(%s): %x, error %d, want none and error %d", i, brief(m), b, e, api.ErrForm)
			}
		}
	}
}

// TestEachBitOfNumbers is P17.1 and P17.3: each bit of each number has its own place.
func TestEachBitOfNumbers(t *testing.T) {
	for _, src := range []api.Message{least, middle, most} {
		for i := range 64 {
			for _, set := range []func(m *api.Message){
				func(m *api.Message) { m.Client = 1 << i },
				func(m *api.Message) { m.Session = 1 << i },
				func(m *api.Message) { m.Seq = 1 << i },
				func(m *api.Message) { m.Boot = 1 << i },
				func(m *api.Message) { m.File.Ino = 1 << i },
				func(m *api.Message) { m.File.Gen = 1 << i },
				func(m *api.Message) { m.Dir.Ino = 1 << i },
				func(m *api.Message) { m.Dir.Gen = 1 << i },
				func(m *api.Message) { m.At = 1 << i },
				func(m *api.Message) { m.Version = 1 << i },
				func(m *api.Message) {
					m.Entries = []api.Entry{{Name: "a", File: api.File{Ino: 3, Gen: 1 << i}, Kind: 2}}
				},
				func(m *api.Message) { m.Entries = []api.Entry{{Name: "a", File: api.File{Ino: 1 << i}, Kind: 1}} },
			} {
				for _, s := range shapes {
					wantBoth(t, s.cut(with(src, set)))
				}
			}
		}
	}
}

// TestEachText is P17.1 and P17.3 of names and Data of each length, and of each byte at each place.
func TestEachText(t *testing.T) {
	texts := func(s string) {
		for _, s := range []string{s, s + "~"} {
			src := with(middle, func(m *api.Message) { m.Name, m.Other, m.Data = s, "o", s })
			wantBoth(t, shape{1, 6, false, "FDNO"}.cut(src))
			wantBoth(t, shape{1, 10, false, "FAT"}.cut(src))
			wantBoth(t, shape{2, 9, false, "TV"}.cut(src))
			src.Name, src.Other = "n", s
			wantBoth(t, shape{1, 6, false, "FDNO"}.cut(src))
			src.Entries = []api.Entry{{Name: s, File: src.File, Kind: 1}}
			wantBoth(t, shape{2, 7, false, "E"}.cut(src))
		}
	}
	for n := range 70 {
		for _, c := range []string{"\x00", "a", "\x80", "\xff"} {
			texts(strings.Repeat(c, n))
		}
	}
	for c := range 256 {
		for _, at := range []int{0, 1, 14, 15, 16, 62, 63} {
			b := bytes.Repeat([]byte{'m'}, at+1)
			b[at] = byte(c)
			texts(string(b))
		}
	}
}

// TestEachCountOfEntries is P17.1 and P17.3 of entries, so many as may be, and more.
func TestEachCountOfEntries(t *testing.T) {
	for count := range 70 {
		for n := 2; n <= 17; n++ {
			wantBoth(t, shape{2, 7, false, "E"}.cut(with(middle, func(m *api.Message) { m.Entries = counted(count, n) })))
		}
	}
}

// chance answers a message by chance, mostly a right one.
func chance(r *rand.Rand) api.Message {
	file := func() api.File { return api.File{Ino: 1 + r.Intn(40), Gen: int(r.Int31())} }
	count := func() uint64 { return max(1, r.Uint64()>>(24+r.Intn(40))) }
	text := func(n int) string {
		b := make([]byte, n)
		for i := range b {
			b[i] = byte(48 + r.Intn(79))
		}
		return string(b)
	}
	data := make([]byte, r.Intn(65))
	r.Read(data)
	src := api.Message{
		Client: r.Intn(8), Session: count(), Seq: count(), Boot: count(), Err: api.Errno(1 + r.Intn(25)),
		File: file(), Dir: file(), Name: text(1 + r.Intn(16)), Other: text(1 + r.Intn(16)), Mode: 1 + r.Intn(2),
		At: r.Intn(8), Data: string(data), Version: count() - 1, Entries: counted(r.Intn(25), 2+r.Intn(15)),
	}
	for i := range src.Entries {
		src.Entries[i].File, src.Entries[i].Kind = file(), 1+r.Intn(2)
	}
	m := shapes[r.Intn(len(shapes))].cut(src)
	if r.Intn(8) == 0 {
		other := shapes[r.Intn(len(shapes))].cut(src)
		m.Type, m.Kind, m.Err = other.Type, other.Kind, other.Err
	}
	return m
}

// TestByChance is P17.1 to P17.3 of messages by chance.
func TestByChance(t *testing.T) {
	r := rand.New(rand.NewSource(17))
	for range 20000 {
		wantBoth(t, chance(r))
	}
}

// TestEncodeLeaves is R3: Entries stay as they are, whatever room is behind them; what is done to an answer changes no other one.
func TestEncodeLeaves(t *testing.T) {
	for _, l := range someEntries() {
		all := slices.Concat(l, counted(3, 3))
		kept := slices.Clone(all)
		for _, m := range right(least, middle, most) {
			if m.Type == api.MReply && m.Kind == api.RList {
				m.Entries = all[:len(l)]
			}
			one, e := wire.Encode(m)
			two, _ := wire.Encode(m)
			if !slices.Equal(all, kept) {
				t.Fatalf("Encode changed entries: %v, were %v", all, kept)
			}
			for i := range one {
				one[i] ^= 255
			}
			_ = append(one, 1, 2, 3)
			if e == api.OK && !bytes.Equal(two, laid(m)) {
				t.Errorf("an answer was changed by way of another one: %x", two)
			}
			wantBoth(t, m)
		}
	}
}
