package msg_test

import (
	"math"
	"math/rand"
	"slices"
	"testing"

	"tenancy/api"
	"tenancy/msg"
)

// wantAnswer fails the test unless a message's Answer has six fields, five of them as the message has.
func wantAnswer(t *testing.T, m api.Message) {
	t.Helper()
	want := api.Message{Type: 2}
	want.Client = m.Client
	want.Session, want.Seq, want.Boot = m.Session, m.Seq, m.Boot
	want.Kind = m.Kind
	if r := msg.Answer(m); !areSame(r, want) {
		t.Errorf("Answer(%s): %s, want %s", brief(m), brief(r), brief(want))
	}
}

// TestAnswer is P16.2 of a request by hand.
func TestAnswer(t *testing.T) {
	m := api.Message{Type: api.MRequest, Client: 1, Session: 2, Seq: 3, Boot: 4, Kind: api.RWriteBack, File: api.File{Ino: 2, Gen: 1}, At: 7, Data: "x"}
	want := api.Message{Type: api.MReply, Client: 1, Session: 2, Seq: 3, Boot: 4, Kind: api.RWriteBack}
	if r := msg.Answer(m); !areSame(r, want) {
		t.Errorf("Answer: %s, want %s", brief(r), brief(want))
	}
}

// TestAnswerEach is P16.2 of each message, of others that are no requests, and of what is no message.
func TestAnswerEach(t *testing.T) {
	for _, m := range append(right(), whole(), api.Message{}) {
		wantAnswer(t, m)
		for _, change := range changes {
			x := apart(m)
			change(&x)
			wantAnswer(t, x)
		}
	}
	r := rand.New(rand.NewSource(7))
	for range 20000 {
		wantAnswer(t, chance(r))
	}
}

// TestAnswerIsRight is P16.1 and P16.2: the Answer to a request that is right is so, as soon as it has what there is to tell, or an error; and a boot, if it is one to RHello.
func TestAnswerIsRight(t *testing.T) {
	for _, m := range right() {
		if m.Type != api.MRequest {
			continue
		}
		r := msg.Answer(m)
		if m.Kind == api.RHello {
			wantCheck(t, r, api.ErrForm)
			r.Boot = 1
		}
		switch m.Kind {
		case api.RLookup:
			wantCheck(t, r, api.ErrForm)
			r.File, r.Mode = top, 1
		case api.RCreate:
			wantCheck(t, r, api.ErrForm)
			r.File = top
		}
		wantCheck(t, r, api.OK)
		r.File, r.Mode, r.Err = api.File{}, 0, api.ErrDelay
		wantCheck(t, r, api.OK)
	}
}

// TestIdle is P16.2 of each kind, and of what is none.
func TestIdle(t *testing.T) {
	idle := []int{api.RHello, api.RRenew, api.RLookup, api.RList, api.RAcquire, api.RFetch, api.RWriteBack, api.RReturn, api.RReclaim, api.RDone}
	kinds := []int{math.MinInt, math.MinInt32, 1<<8 + 1, 1<<16 + 1, 1<<32 + 1, 1<<62 + 1, math.MaxInt}
	for kind := -300; kind <= 300; kind++ {
		kinds = append(kinds, kind)
	}
	for _, kind := range kinds {
		if got, want := msg.Idle(kind), slices.Contains(idle, kind); got != want {
			t.Errorf("Idle(%d): %t, want %t", kind, got, want)
		}
	}
	for _, kind := range []int{api.RCreate, api.RRemove, api.RRename, api.RTruncate} {
		if msg.Idle(kind) {
			t.Errorf("Idle(%d): true", kind)
		}
	}
}
