package wire_test

import (
	"bytes"
	"math/rand"
	"testing"

	"tenancy/api"
	"tenancy/msg"
	"tenancy/wire"
)

// TestThereAndBack is P17.3 by what the packages answer alone: a message there and back is the same, bytes likewise.
func TestThereAndBack(t *testing.T) {
	r := rand.New(rand.NewSource(3))
	l := right(least, middle, most)
	for range 20000 {
		l = append(l, chance(r))
	}
	for _, m := range l {
		b, e := wire.Encode(m)
		if e != msg.Check(m) {
			t.Fatalf("Encode(%s): error %d", brief(m), e)
		}
		if e != api.OK {
			continue
		}
		again, e := wire.Decode(b)
		if e != api.OK || !msg.Same(m, again) {
			t.Fatalf("%s there and back: %s, error %d", brief(m), brief(again), e)
		}
		if c, e := wire.Encode(again); e != api.OK || !bytes.Equal(b, c) {
			t.Fatalf("%x there and back: %x, error %d", b, c, e)
		}
	}
}

// TestNoTwoAlike is P17.3: no two messages have the same bytes.
func TestNoTwoAlike(t *testing.T) {
	of := map[string]api.Message{}
	add := func(m api.Message) {
		b, e := wire.Encode(m)
		if e != api.OK {
			return
		}
		if was, ok := of[string(b)]; ok && !areSame(was, m) {
			t.Errorf("%s and %s have the same bytes", brief(was), brief(m))
		}
		of[string(b)] = m
	}
	for _, m := range right(least, middle, most) {
		add(m)
		eachEdge(m, add)
	}
	r := rand.New(rand.NewSource(4))
	for range 20000 {
		add(chance(r))
	}
}

// TestTurnedRound is P17.3: bytes of which one bit is another one are another message's, or none's.
func TestTurnedRound(t *testing.T) {
	for _, m := range right(least, middle) {
		whole := laid(m)
		for i := range 8 * len(whole) {
			b := bytes.Clone(whole)
			b[i/8] ^= 128 >> (i % 8)
			x, e := wire.Decode(b)
			if e != api.OK {
				continue
			}
			if msg.Same(x, m) {
				t.Errorf("%x and %x are both %s", whole, b, brief(m))
			}
			wantEncode(t, x, b, api.OK)
		}
	}
}

// TestLongest is P17.3: the longest message has fewer than 2048 bytes. These are by hand: 134 bits of each, and what its kind has.
func TestLongest(t *testing.T) {
	for _, c := range []struct {
		s    shape
		size int
	}{
		{shape{1, 1, false, ""}, 17},
		{shape{2, 14, true, ""}, 17},
		{shape{3, 0, false, "F"}, 22},
		{shape{1, 6, false, "FDNO"}, 62},
		{shape{1, 10, false, "FAT"}, 88},
		{shape{2, 9, false, "TV"}, 88},
		{shape{2, 7, false, "E"}, 567},
	} {
		if b, e := wire.Encode(c.s.cut(most)); e != api.OK || len(b) != c.size {
			t.Errorf("%+v: %d bytes, error %d, want %d", c.s, len(b), e, c.size)
		}
	}
	for _, m := range right(most) {
		if b, e := wire.Encode(m); e != api.OK || len(b) > 567 {
			t.Errorf("%s: %d bytes, error %d", brief(m), len(b), e)
		}
	}
}
