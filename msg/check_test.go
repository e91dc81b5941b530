package msg_test

import (
	"math"
	"math/rand"
	"slices"
	"strings"
	"testing"

	"tenancy/api"
	"tenancy/msg"
)

// wantCheck fails the test unless Check answers just this.
func wantCheck(t *testing.T, m api.Message, want api.Errno) {
	t.Helper()
	if e := msg.Check(m); e != want {
		t.Errorf("Check(%s): error %d, want %d", brief(m), e, want)
	}
}

// wantLikeModel fails the test unless Check answers of a message as it is told by the fields that are taken from it.
func wantLikeModel(t *testing.T, m api.Message) {
	t.Helper()
	want := api.ErrForm
	if isRight(m) {
		want = api.OK
	}
	wantCheck(t, m, want)
}

// TestRight is P16.1 of a message of each Type and Kind, written out by hand, by each client.
func TestRight(t *testing.T) {
	for client := range 8 {
		for _, m := range right() {
			m.Client = client
			wantCheck(t, m, api.OK)
			wantLikeModel(t, m)
		}
	}
}

// TestExample is P16.1 of the chapter's message.
func TestExample(t *testing.T) {
	wantCheck(t, api.Message{Type: api.MRecall, Client: 0, Session: 1, Boot: 1, File: api.File{Ino: 2, Gen: 1}}, api.OK)
}

// TestZero is P16.1: a message of nothing is none, of whatever Type and Kind.
func TestZero(t *testing.T) {
	wantCheck(t, api.Message{}, api.ErrForm)
	for kind := range 16 {
		for typ := range 5 {
			wantCheck(t, api.Message{Type: typ, Kind: kind}, api.ErrForm)
		}
	}
}

// TestClientEight is P16.1 and P16.3: there are eight clients, from 0 on.
func TestClientEight(t *testing.T) {
	for _, m := range right() {
		for _, m.Client = range []int{8, 9, 16, 256, 1 << 32, math.MaxInt, -1, -8, math.MinInt} {
			wantCheck(t, m, api.ErrForm)
		}
	}
}

// TestTypes is P16.1: there are three Types, and what is of one is not of another one.
func TestTypes(t *testing.T) {
	for _, m := range right() {
		was := m.Type
		for _, m.Type = range []int{0, 4, 5, 257, 1<<32 + was, -1, -was, math.MaxInt, math.MinInt} {
			wantCheck(t, m, api.ErrForm)
		}
	}
	for _, m := range right() {
		if m.Type == api.MRecall {
			continue
		}
		m.Type = api.MRecall
		wantCheck(t, m, api.ErrForm)
	}
}

// TestNoType is P16.1: what is of no Type is not right, whichever fields it has.
func TestNoType(t *testing.T) {
	head := []setter{
		func(m *api.Message) { m.Seq = 5 },
		func(m *api.Message) { m.Boot = 6 },
		func(m *api.Message) { m.Kind = 3 },
		func(m *api.Message) { m.Err = 4 },
	}
	for choice := range 1 << (len(head) + len(fills)) {
		m := api.Message{Client: 3, Session: 4}
		for i, set := range head {
			if choice>>i&1 == 1 {
				set(&m)
			}
		}
		for i, fill := range fills {
			if choice>>(len(head)+i)&1 == 1 {
				fill.set(&m)
			}
		}
		for _, m.Type = range []int{0, 4, 5, 1<<32 + 1, -1, math.MaxInt, math.MinInt} {
			wantCheck(t, m, api.ErrForm)
		}
	}
}

// TestCounts is P16.1: Session, Seq and Boot are 1 to MaxCount, but for the Seq of a recall and the Boot of an RHello that is asked, which are 0.
func TestCounts(t *testing.T) {
	for _, m := range right() {
		for _, n := range someCounts {
			isCount := n >= 1 && n <= maxCount
			seq, boot := isCount, isCount
			if m.Type == api.MRecall {
				seq = n == 0
			}
			if m.Type == api.MRequest && m.Kind == api.RHello {
				boot = n == 0
			}
			for _, c := range []struct {
				set   setter
				right bool
			}{
				{func(m *api.Message) { m.Session = n }, isCount},
				{func(m *api.Message) { m.Seq = n }, seq},
				{func(m *api.Message) { m.Boot = n }, boot},
			} {
				x := m
				c.set(&x)
				want := api.ErrForm
				if c.right {
					want = api.OK
				}
				wantCheck(t, x, want)
			}
		}
	}
}

// TestHello is P16.1: who says hello knows no boot; the reply has one.
func TestHello(t *testing.T) {
	m := api.Message{Type: api.MRequest, Session: 1, Seq: 1, Kind: api.RHello}
	wantCheck(t, m, api.OK)
	m.Boot = 1
	wantCheck(t, m, api.ErrForm)
	m.Type = api.MReply
	wantCheck(t, m, api.OK)
	m.Boot = 0
	wantCheck(t, m, api.ErrForm)
	m.Err = api.ErrSession
	wantCheck(t, m, api.ErrForm)
	m.Boot = 1
	wantCheck(t, m, api.OK)
}

// TestKinds is P16.1: kinds are 1 to 14; a recall has none.
func TestKinds(t *testing.T) {
	none := []int{math.MinInt, -14, -1, 15, 16, 17, 257, 1 << 32, 1<<32 + 1, math.MaxInt}
	for _, m := range right() {
		for _, m.Kind = range none {
			wantCheck(t, m, api.ErrForm)
		}
		m.Kind = 0
		want := api.ErrForm
		if m.Type == api.MRecall {
			want = api.OK
		}
		wantCheck(t, m, want)
	}
	for kind := 1; kind <= 14; kind++ {
		m := api.Message{Type: api.MRecall, Session: 1, Boot: 1, Kind: kind, File: top}
		wantCheck(t, m, api.ErrForm)
		m.Type, m.Seq, m.Err, m.File = api.MReply, 1, api.ErrIO, api.File{}
		wantCheck(t, m, api.OK)
	}
}

// TestErrs is P16.1: replies alone have an Err, one of 26; where it is not OK nothing is told.
func TestErrs(t *testing.T) {
	for _, m := range right() {
		if m.Type == api.MReply {
			continue
		}
		for _, m.Err = range []api.Errno{1, 2, 14, 25, 26, -1, 1 << 32, math.MaxInt, math.MinInt} {
			wantCheck(t, m, api.ErrForm)
		}
	}
	for kind := 1; kind <= 14; kind++ {
		m := api.Message{Type: api.MReply, Client: 3, Session: 4, Seq: 5, Boot: 6, Kind: kind}
		for _, m.Err = range someErrs() {
			if m.Err == api.OK {
				continue
			}
			want := api.ErrForm
			if m.Err >= 1 && m.Err <= 25 {
				want = api.OK
			}
			wantCheck(t, m, want)
			for _, fill := range fills {
				x := m
				fill.set(&x)
				wantCheck(t, x, api.ErrForm)
			}
		}
	}
}

// fills set each field that hangs on the kind to what is right, and not zero; a field that must be there can't be zero.
var fills = []struct {
	field string
	must  bool
	set   setter
	clear setter
}{
	{"File", true, func(m *api.Message) { m.File = api.File{Ino: 2, Gen: 1} }, func(m *api.Message) { m.File = api.File{} }},
	{"Dir", true, func(m *api.Message) { m.Dir = api.File{Ino: 3, Gen: 2} }, func(m *api.Message) { m.Dir = api.File{} }},
	{"Name", true, func(m *api.Message) { m.Name = "a" }, func(m *api.Message) { m.Name = "" }},
	{"Other", true, func(m *api.Message) { m.Other = "b" }, func(m *api.Message) { m.Other = "" }},
	{"Mode", true, func(m *api.Message) { m.Mode = 2 }, func(m *api.Message) { m.Mode = 0 }},
	{"At", false, func(m *api.Message) { m.At = 7 }, func(m *api.Message) { m.At = 0 }},
	{"Data", false, func(m *api.Message) { m.Data = "hello" }, func(m *api.Message) { m.Data = "" }},
	{"Version", false, func(m *api.Message) { m.Version = 9 }, func(m *api.Message) { m.Version = 0 }},
	{"Entries", false, func(m *api.Message) { m.Entries = counted(3) }, func(m *api.Message) { m.Entries = nil }},
}

// TestEachFieldOfEachKind is P16.1: a message has the fields of its kind, and no other one.
func TestEachFieldOfEachKind(t *testing.T) {
	for kind := 1; kind <= 14; kind++ {
		m := api.Message{Type: api.MReply, Client: 3, Session: 4, Seq: 5, Boot: 6, Kind: kind}
		wantFields(t, m, rows[kind].told)
		m.Type = api.MRequest
		if kind == api.RHello {
			m.Boot = 0
		}
		wantFields(t, m, rows[kind].asked)
	}
	wantFields(t, api.Message{Type: api.MRecall, Client: 3, Session: 4, Boot: 6}, "File")
}

// wantFields fails the test unless a message is right with just these fields.
func wantFields(t *testing.T, m api.Message, fields string) {
	t.Helper()
	has := strings.Fields(fields)
	for _, fill := range fills {
		if slices.Contains(has, fill.field) {
			fill.set(&m)
		}
	}
	wantCheck(t, m, api.OK)
	for _, fill := range fills {
		x, want := m, api.OK
		if slices.Contains(has, fill.field) {
			fill.clear(&x)
			if fill.must {
				want = api.ErrForm
			}
		} else {
			fill.set(&x)
			want = api.ErrForm
		}
		wantCheck(t, x, want)
	}
}

// TestWrongFields is P16.1: what is no file, name, Mode, At, Data or Version, where there is to be one.
func TestWrongFields(t *testing.T) {
	files := []api.File{{}, {Gen: 1}, {Ino: 41}, {Ino: -1}, {Ino: 1, Gen: -1}, {Ino: 1, Gen: 1 << 31}, {Ino: 1<<32 + 1}, {Ino: 1, Gen: 1 << 32}, {Ino: math.MaxInt}, {Ino: 1, Gen: math.MinInt}}
	names := []string{"", ".", "..", "a/b", "/", "a b", "\x7f", "\xff", "\u00e9", long + "a", strings.Repeat("a", 1<<20)}
	modes := []int{-1, 0, 3, 4, 257, 1<<32 + 1, math.MinInt, math.MaxInt}
	ats := []int{-1, 8, 15, 256, 1 << 32, math.MinInt, math.MaxInt}
	data := []string{strings.Repeat("a", 65), strings.Repeat("\x00", 65), strings.Repeat("a", 256), strings.Repeat("a", 1<<16), strings.Repeat("a", 1<<20)}
	versions := []uint64{1 << 40, 1<<40 + 1, 1 << 63, math.MaxUint64}
	wrong := map[string][]setter{
		"File":    sets(func(m *api.Message) *api.File { return &m.File }, files...),
		"Dir":     sets(func(m *api.Message) *api.File { return &m.Dir }, files...),
		"Name":    sets(func(m *api.Message) *string { return &m.Name }, names...),
		"Other":   sets(func(m *api.Message) *string { return &m.Other }, names...),
		"Mode":    sets(func(m *api.Message) *int { return &m.Mode }, modes...),
		"At":      sets(func(m *api.Message) *int { return &m.At }, ats...),
		"Data":    sets(func(m *api.Message) *string { return &m.Data }, data...),
		"Version": sets(func(m *api.Message) *uint64 { return &m.Version }, versions...),
	}
	for _, m := range right() {
		// Where the field must be zero these are wrong as well, but for the zero ones.
		for field, l := range wrong {
			for _, set := range l {
				x := m
				set(&x)
				if has(m, field) || !areSame(x, m) {
					wantCheck(t, x, api.ErrForm)
				}
			}
		}
	}
}

// has tells whether a right message has a field of its kind.
func has(m api.Message, field string) bool {
	if m.Type == api.MRecall {
		return field == "File"
	}
	fields := rows[m.Kind].asked
	if m.Type == api.MReply {
		fields = rows[m.Kind].told
	}
	return m.Err == api.OK && slices.Contains(strings.Fields(fields), field)
}

// TestEachAtAndMode is P16.1 of each place and each Mode.
func TestEachAtAndMode(t *testing.T) {
	for at := range 8 {
		wantCheck(t, api.Message{Type: api.MRequest, Session: 1, Seq: 1, Boot: 1, Kind: api.RFetch, File: top, At: at}, api.OK)
		wantCheck(t, api.Message{Type: api.MRequest, Session: 1, Seq: 1, Boot: 1, Kind: api.RWriteBack, File: top, At: at, Data: "a"}, api.OK)
	}
	for mode := 1; mode <= 2; mode++ {
		wantCheck(t, api.Message{Type: api.MRequest, Session: 1, Seq: 1, Boot: 1, Kind: api.RAcquire, File: top, Mode: mode}, api.OK)
		wantCheck(t, api.Message{Type: api.MRequest, Session: 1, Seq: 1, Boot: 1, Kind: api.RReclaim, File: top, Mode: mode}, api.OK)
		wantCheck(t, api.Message{Type: api.MRequest, Session: 1, Seq: 1, Boot: 1, Kind: api.RCreate, Dir: top, Name: "a", Mode: mode}, api.OK)
		wantCheck(t, api.Message{Type: api.MReply, Session: 1, Seq: 1, Boot: 1, Kind: api.RLookup, File: top, Mode: mode}, api.OK)
	}
}

// TestEachFile is P16.1 of each file's number, as each message's File and Dir.
func TestEachFile(t *testing.T) {
	for ino := -70; ino <= 140; ino++ {
		want := api.ErrForm
		if ino >= 1 && ino <= 40 {
			want = api.OK
		}
		for _, m := range right() {
			if has(m, "File") {
				x := m
				x.File.Ino = ino
				wantCheck(t, x, want)
			}
			if has(m, "Dir") {
				x := m
				x.Dir.Ino = ino
				wantCheck(t, x, want)
			}
		}
	}
}

// TestEachData is P16.1 of Data of each length and of each byte.
func TestEachData(t *testing.T) {
	for n := range 200 {
		want := api.ErrForm
		if n <= 64 {
			want = api.OK
		}
		for c := range 256 {
			s := strings.Repeat(string([]byte{byte(c)}), n)
			wantCheck(t, api.Message{Type: api.MRequest, Session: 1, Seq: 1, Boot: 1, Kind: api.RWriteBack, File: top, Data: s}, want)
			wantCheck(t, api.Message{Type: api.MReply, Session: 1, Seq: 1, Boot: 1, Kind: api.RFetch, Data: s}, want)
		}
	}
}

// listing answers a reply that tells entries.
func listing(l []api.Entry) api.Message {
	return api.Message{Type: api.MReply, Client: 2, Session: 3, Seq: 4, Boot: 5, Kind: api.RList, Entries: l}
}

// TestEntries is P16.1 of each count of entries: at most 24.
func TestEntries(t *testing.T) {
	wantCheck(t, listing([]api.Entry{}), api.OK)
	for n := range 60 {
		want := api.ErrForm
		if n <= 24 {
			want = api.OK
		}
		wantCheck(t, listing(counted(n)), want)
	}
	wantCheck(t, listing(counted(1<<16)), api.ErrForm)
}

// TestEachEntry is P16.1 of each place at which one entry is wrong.
func TestEachEntry(t *testing.T) {
	for n := 1; n <= 24; n++ {
		for at := range n {
			for i, spoil := range []func(e *api.Entry){
				func(e *api.Entry) { e.Name = "" },
				func(e *api.Entry) { e.Name = "." },
				func(e *api.Entry) { e.Name += "/" },
				func(e *api.Entry) { e.Name += " " },
				func(e *api.Entry) { e.Name += "012345678" },
				func(e *api.Entry) { e.File.Ino = 0 },
				func(e *api.Entry) { e.File.Ino = 41 },
				func(e *api.Entry) { e.File.Ino = -1 },
				func(e *api.Entry) { e.File.Gen = -1 },
				func(e *api.Entry) { e.File.Gen = 1 << 31 },
				func(e *api.Entry) { e.Kind = 0 },
				func(e *api.Entry) { e.Kind = 3 },
				func(e *api.Entry) { e.Kind = -1 },
				func(e *api.Entry) { *e = api.Entry{} },
			} {
				l := counted(n)
				spoil(&l[at])
				if m := listing(l); msg.Check(m) != api.ErrForm {
					t.Errorf("wrong part %d of entry %d: Check(%s): not error %d", i, at, brief(m), api.ErrForm)
				}
			}
		}
	}
}

// TestEntriesRise is P16.1: names rise, byte by byte; no two are alike.
func TestEntriesRise(t *testing.T) {
	named := func(l ...string) api.Message {
		var entries []api.Entry
		for _, s := range l {
			entries = append(entries, api.Entry{Name: s, File: top, Kind: 1})
		}
		return listing(entries)
	}
	wantCheck(t, named("a", "b"), api.OK)
	wantCheck(t, named("a", "aa", "ab", "b"), api.OK)
	wantCheck(t, named("B", "a"), api.OK)
	wantCheck(t, named("10", "9"), api.OK)
	wantCheck(t, named("!", long, "~"), api.OK)
	wantCheck(t, named("b", "a"), api.ErrForm)
	wantCheck(t, named("a", "a"), api.ErrForm)
	wantCheck(t, named("aa", "a"), api.ErrForm)
	wantCheck(t, named("a", "B"), api.ErrForm)
	wantCheck(t, named("9", "10"), api.ErrForm)
	wantCheck(t, named("a", "b", "b"), api.ErrForm)
	wantCheck(t, named("a", "c", "b"), api.ErrForm)
	for n := 2; n <= 24; n++ {
		for at := range n - 1 {
			l := counted(n)
			l[at], l[at+1] = l[at+1], l[at]
			wantCheck(t, listing(l), api.ErrForm)
			l[at] = l[at+1]
			wantCheck(t, listing(l), api.ErrForm)
		}
	}
}

// TestEntriesElsewhere is P16.1: no other message than a reply to RList that is OK has entries.
func TestEntriesElsewhere(t *testing.T) {
	for _, m := range right() {
		is := m.Type == api.MReply && m.Kind == api.RList && m.Err == api.OK
		for _, l := range someEntries() {
			m.Entries = l
			want := api.ErrForm
			if len(l) == 0 || is && areEntries(l) {
				want = api.OK
			}
			wantCheck(t, m, want)
		}
	}
}

// TestEdges is P16.1 of each edge of each field of each message.
func TestEdges(t *testing.T) {
	for _, m := range right() {
		for _, l := range fieldEdges() {
			for _, set := range l {
				x := m
				set(&x)
				wantLikeModel(t, x)
			}
		}
	}
}

// TestTwoEdges is P16.1 of each edge of each field with each of each other one.
func TestTwoEdges(t *testing.T) {
	edges := fieldEdges()
	for _, m := range small() {
		for i, one := range edges {
			for _, two := range edges[:i] {
				for _, set := range one {
					x := m
					set(&x)
					for _, set := range two {
						y := x
						set(&y)
						wantLikeModel(t, y)
					}
				}
			}
		}
	}
}

// TestCheckByChance is P16.1 of messages of which some fields are as those of others, or at an edge.
func TestCheckByChance(t *testing.T) {
	r := rand.New(rand.NewSource(5))
	for range 300000 {
		wantLikeModel(t, chance(r))
	}
}

// chance answers a message by chance: a right one, mixed with others, or with edges.
func chance(r *rand.Rand) api.Message {
	pick := func() api.Message { return rightOnes[r.Intn(len(rightOnes))] }
	m := pick()
	for range r.Intn(4) {
		switch other := pick(); r.Intn(6) {
		case 0:
			m.Kind = other.Kind
		case 1:
			m.Type, m.Err = other.Type, other.Err
		case 2:
			m.File, m.Mode = other.File, other.Mode
		case 3:
			m.Dir, m.Name, m.Other = other.Dir, other.Name, other.Other
		case 4:
			m.At, m.Data, m.Version, m.Entries = other.At, other.Data, other.Version, other.Entries
		default:
			l := allEdges[r.Intn(len(allEdges))]
			l[r.Intn(len(l))](&m)
		}
	}
	return m
}

var (
	rightOnes = right()
	allEdges  = fieldEdges()
)

// TestCheckLeaves is R3: entries stay as they are, whatever room is behind them.
func TestCheckLeaves(t *testing.T) {
	for _, l := range someEntries() {
		all := slices.Concat(l, counted(3))
		kept := slices.Clone(all)
		for _, m := range right() {
			m.Entries = all[:len(l)]
			msg.Check(m)
			msg.Same(m, m)
			msg.Answer(m)
			if !slices.Equal(all, kept) {
				t.Fatalf("%s was changed", brief(m))
			}
		}
	}
}
