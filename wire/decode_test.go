package wire_test

import (
	"bytes"
	"math/rand"
	"strings"
	"testing"

	"tenancy/api"
	"tenancy/wire"
)

// TestBig is P17.2: more than 2048 bytes are too many, whatever they are; 2048 are not.
func TestBig(t *testing.T) {
	for _, m := range append(right(least, middle, most), api.Message{}) {
		b := append(laid(m), make([]byte, 3000)...)
		wantNone(t, b[:2047])
		wantNone(t, b[:2048])
		for _, n := range []int{2049, 2050, 2056, len(b)} {
			wantDecode(t, b[:n], api.Message{}, api.ErrBig)
		}
	}
	for _, c := range []byte{0, 1, 0x40, 0x80, 255} {
		b := bytes.Repeat([]byte{c}, 1<<20)
		wantNone(t, b[:2048])
		wantDecode(t, b[:2049], api.Message{}, api.ErrBig)
		wantDecode(t, b, api.Message{}, api.ErrBig)
	}
}

// TestLengths is P17.2: bytes that are cut anywhere, or have anything behind, are no message's.
func TestLengths(t *testing.T) {
	wantNone(t, nil)
	wantNone(t, []byte{})
	for _, m := range right(least, middle, most) {
		b := laid(m)
		for n := range b {
			wantNone(t, b[:n])
		}
		for _, c := range []byte{0, 1, 128, 255} {
			wantNone(t, append(bytes.Clone(b), c))
			wantNone(t, append(append(bytes.Clone(b), 0), c))
			wantNone(t, append([]byte{c}, b...))
		}
		wantNone(t, append(bytes.Clone(b), b...))
	}
}

// TestEndings is P17.2: there are noughts up to a whole byte.
func TestEndings(t *testing.T) {
	for _, m := range right(least, middle, most) {
		row := row(m)
		for i := len(row); i < 8*len(packed(row)); i++ {
			b := packed(row)
			b[i/8] ^= 128 >> (i % 8)
			wantNone(t, b)
		}
	}
}

// TestEachBit is P17.2 of each bit of messages' bytes turned round.
func TestEachBit(t *testing.T) {
	for _, m := range right(least, middle, most) {
		whole := laid(m)
		if m.Type == api.MReply && m.Kind == api.RList && len(whole) > 200 {
			// Its entries are all alike in what they have.
			m.Entries = m.Entries[:3]
			whole = laid(m)
		}
		for i := range 8 * len(whole) {
			b := bytes.Clone(whole)
			b[i/8] ^= 128 >> (i % 8)
			wantLikeModel(t, b)
		}
	}
}

// TestEachByte is P17.2 of each byte at each place.
func TestEachByte(t *testing.T) {
	for _, m := range right(middle) {
		whole := laid(m)
		for at := range whole {
			for c := range 256 {
				b := bytes.Clone(whole)
				b[at] = byte(c)
				wantLikeModel(t, b)
			}
		}
	}
}

// TestHeads is P17.2 of each Type, Kind and Err, with what stands behind any of them.
func TestHeads(t *testing.T) {
	rests := map[string]string{}
	for _, s := range shapes {
		m := s.cut(middle)
		rests[s.has] = strings.TrimPrefix(row(m), speltHead(m))
	}
	for typ := range 4 {
		for kind := range 16 {
			for e := range api.Errno(32) {
				for counts := range 4 {
					m := api.Message{Type: typ, Client: 6, Session: 3, Seq: uint64(counts & 1), Boot: uint64(counts >> 1), Kind: kind, Err: e}
					wantHead(t, m, rests)
				}
			}
		}
	}
}

// wantHead fails the test unless a head, with what may stand behind one, is a message's just where that is its own, and it may be.
func wantHead(t *testing.T, m api.Message, rests map[string]string) {
	t.Helper()
	s, ok := shapeOf(m)
	ok = ok && m.Err <= 25 && (m.Seq > 0) == (m.Type != 3) && (m.Boot > 0) == (m.Type != 1 || m.Kind != 1)
	for has, rest := range rests {
		b := packed(speltHead(m) + rest)
		switch {
		case !ok:
			wantNone(t, b)
		case s.has == has:
			whole := m
			for _, c := range has {
				copyField(&whole, middle, c)
			}
			wantDecode(t, b, whole, api.OK)
		default:
			// What another kind has may be read as what this one has.
			wantLikeModel(t, b)
		}
	}
}

// TestNoSession is P17.2: there is no message without a Session.
func TestNoSession(t *testing.T) {
	for _, m := range right(least, middle, most) {
		m.Session = 0
		wantNone(t, laid(m))
	}
}

// TestWrongParts is P17.2: bytes are no message's, if one part of it is wrong.
func TestWrongParts(t *testing.T) {
	for _, m := range right(least, middle, most) {
		s, _ := shapeOf(m)
		for ino := range 64 {
			for _, p := range []*api.File{&m.File, &m.Dir} {
				was := *p
				p.Ino = ino
				wantLikeModel(t, laid(m))
				if (was != api.File{}) && (ino < 1 || ino > 40) {
					wantNone(t, laid(m))
				}
				*p = was
			}
		}
		for _, c := range s.has {
			for _, src := range wrongFields(c) {
				x := m
				copyField(&x, src, c)
				wantNone(t, laid(x))
			}
		}
	}
}

// wrongFields are messages with something wrong at a field, as far as there are bits for it.
func wrongFields(c rune) []api.Message {
	var l []api.Message
	switch c {
	case 'F', 'D':
		for _, ino := range []int{0, 41, 42, 62, 63} {
			f := api.File{Ino: ino, Gen: 1}
			l = append(l, api.Message{File: f, Dir: f})
		}
	case 'N', 'O':
		for _, s := range []string{"", ".", "..", "/", "a/b", "a b", "\x00", "\x7f", "\xff", strings.Repeat("n", 17), strings.Repeat("n", 64), strings.Repeat("n", 1500)} {
			l = append(l, api.Message{Name: s, Other: s})
		}
	case 'M':
		l = append(l, api.Message{Mode: 0}, api.Message{Mode: 3})
	case 'T':
		for _, n := range []int{65, 66, 127, 128, 255, 256, 1500} {
			l = append(l, api.Message{Data: strings.Repeat("a", n)}, api.Message{Data: strings.Repeat("\x00", n)})
		}
	case 'E':
		for n := 25; n < 32; n++ {
			l = append(l, api.Message{Entries: counted(n, 2)})
		}
		for at := range 24 {
			for _, spoil := range []func(e *api.Entry){
				func(e *api.Entry) { e.Name = "" },
				func(e *api.Entry) { e.Name = ".." },
				func(e *api.Entry) { e.Name += "/" },
				func(e *api.Entry) { e.Name += "0123456789012345" },
				func(e *api.Entry) { e.File.Ino = 0 },
				func(e *api.Entry) { e.File.Ino = 41 },
				func(e *api.Entry) { e.File.Ino = 63 },
				func(e *api.Entry) { e.Kind = 0 },
				func(e *api.Entry) { e.Kind = 3 },
			} {
				entries := counted(24, 7)
				spoil(&entries[at])
				l = append(l, api.Message{Entries: entries})
			}
			if at > 0 {
				entries := counted(24, 7)
				entries[at].Name = entries[at-1].Name
				l = append(l, api.Message{Entries: entries})
				entries = counted(24, 7)
				entries[at], entries[at-1] = entries[at-1], entries[at]
				l = append(l, api.Message{Entries: entries})
			}
		}
	}
	return l
}

// TestLongTexts is P17.2 of texts that say of themselves any length, with few bytes behind, or many.
func TestLongTexts(t *testing.T) {
	heads := []string{
		speltHead(shape{1, 3, false, "DN"}.cut(middle)) + speltFile(middle.Dir),
		speltHead(shape{1, 6, false, "FDNO"}.cut(middle)) + speltFile(middle.File) + speltFile(middle.Dir) + speltText("a"),
		speltHead(shape{1, 10, false, "FAT"}.cut(middle)) + speltFile(middle.File) + spelt(5, 3),
		speltHead(shape{2, 9, false, "TV"}.cut(middle)),
		speltHead(shape{2, 7, false, "E"}.cut(middle)) + spelt(1, 5),
	}
	for n := range uint64(1 << 16) {
		for _, head := range heads {
			if n > 0 {
				wantNone(t, packed(head+spelt(n, 16)))
			}
		}
	}
	for n := range uint64(300) {
		for _, head := range heads {
			for _, k := range []int{0, 1, 3, 8, 16, 17, 64, 70, 300} {
				rest := strings.Repeat(spelt('n', 8), k)
				wantLikeModel(t, packed(head+spelt(n, 16)+rest))
				wantLikeModel(t, packed(head+spelt(n, 16)+rest+spelt(9, 40)))
			}
		}
	}
}

// TestCountsOfEntries is P17.2: there are as many entries as is told, no more, no fewer.
func TestCountsOfEntries(t *testing.T) {
	head := speltHead(shape{2, 7, false, "E"}.cut(middle))
	for told := range uint64(32) {
		for n := range 33 {
			l := counted(n, 2)
			b := packed(head + spelt(told, 5) + speltEntries(l))
			if told != uint64(n) || n > 24 {
				wantNone(t, b)
				continue
			}
			wantDecode(t, b, shape{2, 7, false, "E"}.cut(with(middle, func(m *api.Message) { m.Entries = l })), api.OK)
		}
	}
}

// TestDecodeByChance is R1 and P17.2 of bytes by chance, and of messages' bytes with some of them turned round.
func TestDecodeByChance(t *testing.T) {
	r := rand.New(rand.NewSource(7))
	for range 20000 {
		b := make([]byte, r.Intn(60))
		r.Read(b)
		wantLikeModel(t, b)
		b = laid(shapes[r.Intn(len(shapes))].cut(middle))
		for range 1 + r.Intn(3) {
			b[r.Intn(len(b))] ^= 1 << r.Intn(8)
		}
		wantLikeModel(t, b[:len(b)-r.Intn(2)])
	}
}

// TestDecodeLeaves is R3: bytes stay, also those behind, and what is done to them afterwards changes no answer.
func TestDecodeLeaves(t *testing.T) {
	for _, m := range right(least, middle, most) {
		b := laid(m)
		all := append(bytes.Clone(b), 1, 2, 3, 4)
		kept := bytes.Clone(all)
		for n := range all {
			wire.Decode(all[:n])
			if !bytes.Equal(all, kept) {
				t.Fatalf("Decode of %d bytes changed %x to %x", n, kept, all)
			}
		}
		one, _ := wire.Decode(all[:len(b)])
		two, _ := wire.Decode(all[:len(b)])
		clear(all)
		clear(one.Entries)
		_ = append(one.Entries, api.Entry{})
		if !areSame(two, m) {
			t.Errorf("an answer was changed: %s, want %s", brief(two), brief(m))
		}
	}
}

// FuzzDecode is R1, P17.2 and P17.3: whatever the bytes, Decode answers as their bits tell, and a message has no others.
func FuzzDecode(f *testing.F) {
	f.Add([]byte{}, 0)
	for _, m := range right(least, middle, most) {
		f.Add(laid(m), 0)
	}
	f.Add(laid(shape{2, 7, false, "E"}.cut(most)), 2048)
	f.Fuzz(func(t *testing.T, b []byte, more int) {
		b = append(bytes.Clone(b), make([]byte, max(0, min(more, 2100)))...)
		wantLikeModel(t, b)
		if m, e := wire.Decode(b); e == api.OK {
			wantEncode(t, m, b, api.OK)
		}
	})
}
