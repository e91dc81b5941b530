package wire_test

import (
	"bytes"
	"fmt"
	"math"
	"reflect"
	"slices"
	"strconv"
	"strings"
	"testing"

	"tenancy/api"
	"tenancy/msg"
	"tenancy/wire"
)

// maxCount is the greatest of Sessions, Seqs, Boots and Versions, as the document has it.
const maxCount = 1<<40 - 1

// shape is what a message's form hangs on, and which of the fields are laid that not all have, in their order:
// F File, D Dir, N Name, O Other, M Mode, A At, T Data, V Version, E Entries.
type shape struct {
	typ, kind int
	fails     bool
	has       string
}

// shapes are all of them, by hand.
var shapes = []shape{
	{1, 1, false, ""}, {1, 2, false, ""}, {1, 3, false, "DN"}, {1, 4, false, "DNM"}, {1, 5, false, "DN"},
	{1, 6, false, "FDNO"}, {1, 7, false, "D"}, {1, 8, false, "FM"}, {1, 9, false, "FA"}, {1, 10, false, "FAT"},
	{1, 11, false, "F"}, {1, 12, false, "F"}, {1, 13, false, "FM"}, {1, 14, false, ""},
	{2, 1, false, ""}, {2, 2, false, ""}, {2, 3, false, "FM"}, {2, 4, false, "F"}, {2, 5, false, ""},
	{2, 6, false, ""}, {2, 7, false, "E"}, {2, 8, false, "V"}, {2, 9, false, "TV"}, {2, 10, false, "V"},
	{2, 11, false, "V"}, {2, 12, false, ""}, {2, 13, false, "V"}, {2, 14, false, ""},
	{2, 1, true, ""}, {2, 2, true, ""}, {2, 3, true, ""}, {2, 4, true, ""}, {2, 5, true, ""},
	{2, 6, true, ""}, {2, 7, true, ""}, {2, 8, true, ""}, {2, 9, true, ""}, {2, 10, true, ""},
	{2, 11, true, ""}, {2, 12, true, ""}, {2, 13, true, ""}, {2, 14, true, ""},
	{3, 0, false, "F"},
}

// shapeOf answers a message's shape, and whether it has one.
func shapeOf(m api.Message) (shape, bool) {
	i := slices.IndexFunc(shapes, func(s shape) bool {
		return s.typ == m.Type && s.kind == m.Kind && s.fails == (m.Err != 0)
	})
	if i < 0 {
		return shape{}, false
	}
	return shapes[i], true
}

// cut answers a message of a shape, with what a source has there.
func (s shape) cut(src api.Message) api.Message {
	m := api.Message{Type: s.typ, Client: src.Client, Session: src.Session, Kind: s.kind}
	if s.typ != 3 {
		m.Seq = src.Seq
	}
	if s.typ != 1 || s.kind != 1 {
		m.Boot = src.Boot
	}
	if s.fails {
		m.Err = src.Err
	}
	for _, c := range s.has {
		copyField(&m, src, c)
	}
	return m
}

// copyField sets one field as a source has it.
func copyField(m *api.Message, src api.Message, c rune) {
	switch c {
	case 'F':
		m.File = src.File
	case 'D':
		m.Dir = src.Dir
	case 'N':
		m.Name = src.Name
	case 'O':
		m.Other = src.Other
	case 'M':
		m.Mode = src.Mode
	case 'A':
		m.At = src.At
	case 'T':
		m.Data = src.Data
	case 'V':
		m.Version = src.Version
	case 'E':
		m.Entries = src.Entries
	}
}

// counted answers so many entries with names of n bytes.
func counted(count, n int) []api.Entry {
	l := make([]api.Entry, count)
	for i := range l {
		l[i] = api.Entry{Name: fmt.Sprintf("%0*d", n, i), File: api.File{Ino: 1 + i%40, Gen: i * i}, Kind: 1 + i%2}
	}
	return l
}

// least, middle and most have all fields, as small as may be, in between, and as great as may be.
var (
	least = api.Message{
		Session: 1, Seq: 1, Boot: 1, Err: 1, File: api.File{Ino: 1}, Dir: api.File{Ino: 1},
		Name: "!", Other: "!", Mode: 1,
	}
	middle = api.Message{
		Client: 5, Session: 1 << 20, Seq: 77, Boot: 3, Err: 14, File: api.File{Ino: 2, Gen: 1}, Dir: api.File{Ino: 17, Gen: 65536},
		Name: "name", Other: "other", Mode: 2, At: 3, Data: "hello\x00", Version: 9, Entries: counted(3, 2),
	}
	most = api.Message{
		Client: 7, Session: maxCount, Seq: maxCount, Boot: maxCount, Err: 25,
		File: api.File{Ino: 40, Gen: math.MaxInt32}, Dir: api.File{Ino: 40, Gen: math.MaxInt32},
		Name: "0123456789abcde~", Other: "0123456789abcde~", Mode: 2, At: 7,
		Data: strings.Repeat("\xff", 64), Version: maxCount, Entries: counted(24, 16),
	}
)

// right answers a message of each shape from each of these sources.
func right(sources ...api.Message) []api.Message {
	var l []api.Message
	for _, src := range sources {
		for _, s := range shapes {
			l = append(l, s.cut(src))
		}
	}
	return l
}

// spelt answers a number's bits as '0' and '1'.
func spelt(x uint64, n int) string {
	s := strconv.FormatUint(x, 2)
	return strings.Repeat("0", n-len(s)) + s
}

// speltText answers a text's bits: how many bytes it has, and these.
func speltText(s string) string {
	var row strings.Builder
	row.WriteString(spelt(uint64(len(s)), 16))
	for i := range len(s) {
		row.WriteString(spelt(uint64(s[i]), 8))
	}
	return row.String()
}

// speltFile answers a file's bits.
func speltFile(f api.File) string {
	return spelt(uint64(f.Ino), 6) + spelt(uint64(f.Gen), 31)
}

// speltField answers the bits of one field.
func speltField(m api.Message, c rune) string {
	switch c {
	case 'F':
		return speltFile(m.File)
	case 'D':
		return speltFile(m.Dir)
	case 'N':
		return speltText(m.Name)
	case 'O':
		return speltText(m.Other)
	case 'M':
		return spelt(uint64(m.Mode), 2)
	case 'A':
		return spelt(uint64(m.At), 3)
	case 'T':
		return speltText(m.Data)
	case 'V':
		return spelt(m.Version, 40)
	}
	return spelt(uint64(len(m.Entries)), 5) + speltEntries(m.Entries)
}

// speltEntries answers entries' bits.
func speltEntries(l []api.Entry) string {
	var row strings.Builder
	for _, e := range l {
		row.WriteString(speltText(e.Name) + speltFile(e.File) + spelt(uint64(e.Kind), 2))
	}
	return row.String()
}

// speltHead answers the bits of what all messages have.
func speltHead(m api.Message) string {
	return spelt(uint64(m.Type), 2) + spelt(uint64(m.Client), 3) +
		spelt(m.Session, 40) + spelt(m.Seq, 40) + spelt(m.Boot, 40) +
		spelt(uint64(m.Kind), 4) + spelt(uint64(m.Err), 5)
}

// row answers a message's bits, told without the package, whether it is right or not; what has no shape has no fields.
func row(m api.Message) string {
	s, _ := shapeOf(m)
	all := speltHead(m)
	for _, c := range s.has {
		all += speltField(m, c)
	}
	return all
}

// packed answers bits as bytes, noughts behind.
func packed(row string) []byte {
	row += strings.Repeat("0", -len(row)&7)
	b := make([]byte, len(row)/8)
	for i := range b {
		c, err := strconv.ParseUint(row[8*i:8*i+8], 2, 8)
		if err != nil {
			panic(err)
		}
		b[i] = byte(c)
	}
	return b
}

// laid answers a message's bytes, told without the package.
func laid(m api.Message) []byte { return packed(row(m)) }

// parser takes parts from bits, as long as there are enough.
type parser struct {
	row   string
	short bool
}

func (p *parser) number(n int) uint64 {
	if n > len(p.row) {
		p.short, p.row = true, ""
		return 0
	}
	x, err := strconv.ParseUint(p.row[:n], 2, 64)
	if err != nil {
		panic(err)
	}
	p.row = p.row[n:]
	return x
}

func (p *parser) text() string {
	var b []byte
	for range p.number(16) {
		b = append(b, byte(p.number(8)))
		if p.short {
			break
		}
	}
	return string(b)
}

func (p *parser) file() api.File {
	ino := p.number(6)
	return api.File{Ino: int(ino), Gen: int(p.number(31))}
}

func (p *parser) field(m *api.Message, c rune) {
	switch c {
	case 'F':
		m.File = p.file()
	case 'D':
		m.Dir = p.file()
	case 'N':
		m.Name = p.text()
	case 'O':
		m.Other = p.text()
	case 'M':
		m.Mode = int(p.number(2))
	case 'A':
		m.At = int(p.number(3))
	case 'T':
		m.Data = p.text()
	case 'V':
		m.Version = p.number(40)
	case 'E':
		for range p.number(5) {
			var e api.Entry
			e.Name = p.text()
			e.File = p.file()
			e.Kind = int(p.number(2))
			m.Entries = append(m.Entries, e)
		}
	}
}

// parsed answers the message that bytes are, told without the package, and whether they are those of a right one.
func parsed(b []byte) (api.Message, bool) {
	var all strings.Builder
	for _, c := range b {
		all.WriteString(spelt(uint64(c), 8))
	}
	p := &parser{row: all.String()}
	var m api.Message
	m.Type = int(p.number(2))
	m.Client = int(p.number(3))
	m.Session = p.number(40)
	m.Seq = p.number(40)
	m.Boot = p.number(40)
	m.Kind = int(p.number(4))
	m.Err = api.Errno(p.number(5))
	s, ok := shapeOf(m)
	for _, c := range s.has {
		p.field(&m, c)
	}
	ok = ok && !p.short && len(p.row) < 8 && !strings.Contains(p.row, "1") && msg.Check(m) == api.OK
	return m, ok
}

// areSame tells whether two messages are the same; nil and empty Entries are alike.
func areSame(a, b api.Message) bool {
	if len(a.Entries) == 0 && len(b.Entries) == 0 {
		a.Entries, b.Entries = nil, nil
	}
	return reflect.DeepEqual(a, b)
}

// brief tells a message, no more than may be read.
func brief(m api.Message) string { return fmt.Sprintf("%.600s", fmt.Sprintf("%+v", m)) }

// wantEncode fails the test unless a message has these bytes, or none and an error.
func wantEncode(t *testing.T, m api.Message, want []byte, wantErr api.Errno) {
	t.Helper()
	b, e := wire.Encode(m)
	if e != wantErr || !bytes.Equal(b, want) {
		t.Errorf("Encode(%s): %x, error %d, want %x, error %d", brief(m), b, e, want, wantErr)
	}
}

// wantDecode fails the test unless bytes are this message's, or the zero one comes and an error.
func wantDecode(t *testing.T, b []byte, want api.Message, wantErr api.Errno) {
	t.Helper()
	m, e := wire.Decode(b)
	if e != wantErr || !areSame(m, want) {
		t.Errorf("Decode of %d bytes, %.600x: %s, error %d, want %s, error %d", len(b), b, brief(m), e, brief(want), wantErr)
	}
}

// wantNone fails the test unless bytes are no message's.
func wantNone(t *testing.T, b []byte) {
	t.Helper()
	wantDecode(t, b, api.Message{}, api.ErrForm)
}

// wantBoth fails the test unless a message and its bytes are answered of each other; of what is not right, unless it is refused.
func wantBoth(t *testing.T, m api.Message) {
	t.Helper()
	if e := msg.Check(m); e != api.OK {
		wantEncode(t, m, nil, e)
		return
	}
	b := laid(m)
	wantEncode(t, m, b, api.OK)
	wantDecode(t, b, m, api.OK)
}

// wantLikeModel fails the test unless Decode answers of bytes what they tell, if that may be.
func wantLikeModel(t *testing.T, b []byte) {
	t.Helper()
	if len(b) > 2048 {
		wantDecode(t, b, api.Message{}, api.ErrBig)
		return
	}
	m, ok := parsed(b)
	if !ok {
		wantNone(t, b)
		return
	}
	wantDecode(t, b, m, api.OK)
}
