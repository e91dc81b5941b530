package msg_test

import (
	"fmt"
	"math"
	"reflect"
	"regexp"
	"slices"
	"strings"

	"tenancy/api"
)

// maxCount is the greatest of Sessions, Seqs, Boots and Versions, as the document has it.
const maxCount = 1<<40 - 1

// top and last are files whose numbers are as small, and as great, as may be.
var (
	top  = api.File{Ino: 1}
	last = api.File{Ino: 40, Gen: math.MaxInt32}
)

// long is a name of as many bytes as may be.
const long = "0123456789abcde~"

// rows are the fields of each kind: those that are asked, and those that are told.
var rows = []struct{ asked, told string }{
	1:  {"", ""},
	2:  {"", ""},
	3:  {"Dir Name", "File Mode"},
	4:  {"Dir Name Mode", "File"},
	5:  {"Dir Name", ""},
	6:  {"Dir Name File Other", ""},
	7:  {"Dir", "Entries"},
	8:  {"File Mode", "Version"},
	9:  {"File At", "Data Version"},
	10: {"File At Data", "Version"},
	11: {"File", "Version"},
	12: {"File", ""},
	13: {"File Mode", "Version"},
	14: {"", ""},
}

// counted answers so many entries, which are right if a directory may have so many.
func counted(n int) []api.Entry {
	l := make([]api.Entry, n)
	for i := range l {
		l[i] = api.Entry{Name: fmt.Sprintf("n%07d", i), File: api.File{Ino: 1 + i%40, Gen: i}, Kind: 1 + i%2}
	}
	return l
}

// lows and highs are requests, replies and recalls by hand, but for Client, Session, Seq and Boot: with fields as small, and as great, as may be.
func lows() []api.Message {
	return []api.Message{
		{Type: 1, Kind: 1},
		{Type: 1, Kind: 2},
		{Type: 1, Kind: 3, Dir: top, Name: "!"},
		{Type: 1, Kind: 4, Dir: top, Name: "!", Mode: 1},
		{Type: 1, Kind: 5, Dir: top, Name: "!"},
		{Type: 1, Kind: 6, Dir: top, Name: "!", File: top, Other: "!"},
		{Type: 1, Kind: 7, Dir: top},
		{Type: 1, Kind: 8, File: top, Mode: 1},
		{Type: 1, Kind: 9, File: top},
		{Type: 1, Kind: 10, File: top},
		{Type: 1, Kind: 11, File: top},
		{Type: 1, Kind: 12, File: top},
		{Type: 1, Kind: 13, File: top, Mode: 1},
		{Type: 1, Kind: 14},
		{Type: 2, Kind: 1},
		{Type: 2, Kind: 2},
		{Type: 2, Kind: 3, File: top, Mode: 1},
		{Type: 2, Kind: 4, File: top},
		{Type: 2, Kind: 5},
		{Type: 2, Kind: 6},
		{Type: 2, Kind: 7},
		{Type: 2, Kind: 8},
		{Type: 2, Kind: 9},
		{Type: 2, Kind: 10},
		{Type: 2, Kind: 11},
		{Type: 2, Kind: 12},
		{Type: 2, Kind: 13},
		{Type: 2, Kind: 14},
		{Type: 2, Kind: 1, Err: 1},
		{Type: 2, Kind: 4, Err: 1},
		{Type: 2, Kind: 14, Err: 1},
		{Type: 3, File: top},
	}
}

func highs() []api.Message {
	data := strings.Repeat("\xff", 64)
	return []api.Message{
		{Type: 1, Kind: 1},
		{Type: 1, Kind: 2},
		{Type: 1, Kind: 3, Dir: last, Name: long},
		{Type: 1, Kind: 4, Dir: last, Name: long, Mode: 2},
		{Type: 1, Kind: 5, Dir: last, Name: long},
		{Type: 1, Kind: 6, Dir: last, Name: long, File: last, Other: long},
		{Type: 1, Kind: 7, Dir: last},
		{Type: 1, Kind: 8, File: last, Mode: 2},
		{Type: 1, Kind: 9, File: last, At: 7},
		{Type: 1, Kind: 10, File: last, At: 7, Data: data},
		{Type: 1, Kind: 11, File: last},
		{Type: 1, Kind: 12, File: last},
		{Type: 1, Kind: 13, File: last, Mode: 2},
		{Type: 1, Kind: 14},
		{Type: 2, Kind: 1},
		{Type: 2, Kind: 2},
		{Type: 2, Kind: 3, File: last, Mode: 2},
		{Type: 2, Kind: 4, File: last},
		{Type: 2, Kind: 5},
		{Type: 2, Kind: 6},
		{Type: 2, Kind: 7, Entries: counted(24)},
		{Type: 2, Kind: 8, Version: maxCount},
		{Type: 2, Kind: 9, Data: data, Version: maxCount},
		{Type: 2, Kind: 10, Version: maxCount},
		{Type: 2, Kind: 11, Version: maxCount},
		{Type: 2, Kind: 12},
		{Type: 2, Kind: 13, Version: maxCount},
		{Type: 2, Kind: 14},
		{Type: 2, Kind: 1, Err: 25},
		{Type: 2, Kind: 7, Err: 25},
		{Type: 2, Kind: 14, Err: 25},
		{Type: 3, File: last},
	}
}

// headed answers messages of this Client, with all counts like this one that they are to have.
func headed(l []api.Message, client int, count uint64) []api.Message {
	for i := range l {
		m := &l[i]
		m.Client, m.Session = client, count
		if m.Type != 3 {
			m.Seq = count
		}
		if m.Type != 1 || m.Kind != 1 {
			m.Boot = count
		}
	}
	return l
}

// small and great answer messages that are right: of each Type and Kind one whose fields are as small, or as great, as may be.
func small() []api.Message { return headed(lows(), 0, 1) }
func great() []api.Message { return headed(highs(), 7, maxCount) }
func right() []api.Message { return append(small(), great()...) }

var nameForm = regexp.MustCompile(`^[!-.0-~]{1,16}$`)

// isName tells whether a text is a name.
func isName(s string) bool {
	return nameForm.MatchString(s) && s != "." && s != ".."
}

// isFile tells whether a file is one.
func isFile(f api.File) bool {
	return f.Ino >= 1 && f.Ino <= 40 && f.Gen >= 0 && f.Gen <= math.MaxInt32
}

// areEntries tells whether entries are right.
func areEntries(l []api.Entry) bool {
	for i, e := range l {
		if !isName(e.Name) || !isFile(e.File) || e.Kind != 1 && e.Kind != 2 || i > 0 && e.Name <= l[i-1].Name {
			return false
		}
	}
	return len(l) <= 24
}

// take tells whether a field is right, and sets it to zero.
func take(m *api.Message, field string) bool {
	was := *m
	switch field {
	case "Seq":
		m.Seq = 0
		return was.Seq >= 1 && was.Seq <= maxCount
	case "Boot":
		m.Boot = 0
		return was.Boot >= 1 && was.Boot <= maxCount
	case "Err":
		m.Err = 0
		return was.Err >= 0 && was.Err <= 25
	case "File":
		m.File = api.File{}
		return isFile(was.File)
	case "Dir":
		m.Dir = api.File{}
		return isFile(was.Dir)
	case "Name":
		m.Name = ""
		return isName(was.Name)
	case "Other":
		m.Other = ""
		return isName(was.Other)
	case "Mode":
		m.Mode = 0
		return was.Mode == 1 || was.Mode == 2
	case "At":
		m.At = 0
		return was.At >= 0 && was.At <= 7
	case "Data":
		m.Data = ""
		return len(was.Data) <= 64
	case "Version":
		m.Version = 0
		return was.Version <= maxCount
	case "Entries":
		m.Entries = nil
		return areEntries(was.Entries)
	}
	panic("no field " + field)
}

// isRight tells whether a message is right: the fields that it is to have are, and without them there is nothing left of it.
func isRight(m api.Message) bool {
	ofKind := m.Kind >= 1 && m.Kind <= 14
	want := ""
	switch {
	case m.Type == 1 && m.Kind == 1:
		want = "Seq"
	case m.Type == 1 && ofKind:
		want = "Seq Boot " + rows[m.Kind].asked
	case m.Type == 2 && ofKind && m.Err == 0:
		want = "Seq Boot " + rows[m.Kind].told
	case m.Type == 2 && ofKind:
		want = "Seq Boot Err"
	case m.Type == 3 && m.Kind == 0:
		want = "Boot File"
	default:
		return false
	}
	if m.Client < 0 || m.Client > 7 || m.Session < 1 || m.Session > maxCount {
		return false
	}
	for _, field := range strings.Fields(want) {
		if !take(&m, field) {
			return false
		}
	}
	m.Type, m.Kind, m.Client, m.Session = 0, 0, 0, 0
	return areSame(m, api.Message{})
}

// areSame tells whether messages are the same, gone through by what fields the type has, not by their names. A list of no entries is like none.
func areSame(a, b api.Message) bool {
	for _, m := range []*api.Message{&a, &b} {
		if len(m.Entries) == 0 {
			m.Entries = nil
		}
	}
	return reflect.DeepEqual(a, b)
}

// brief tells a message, of long texts and lists no more than their beginning.
func brief(m api.Message) string {
	return fmt.Sprintf("%.1500s", fmt.Sprintf("%+v", cut(m)))
}

// cut answers a message with its texts and its list cut short.
func cut(m api.Message) api.Message {
	for _, s := range []*string{&m.Name, &m.Other, &m.Data} {
		*s = (*s)[:min(len(*s), 130)]
	}
	m.Entries = m.Entries[:min(len(m.Entries), 30)]
	return m
}

// A setter sets a field of a message.
type setter func(*api.Message)

// sets answers setters of a field to each of some values.
func sets[T any](field func(*api.Message) *T, values ...T) []setter {
	var l []setter
	for _, v := range values {
		l = append(l, func(m *api.Message) { *field(m) = v })
	}
	return l
}

// someCounts to someEntries are at the edges of fields and about them, and where a number cut to its bits may be right.
var (
	someCounts  = []uint64{0, 1, 2, 255, 256, 1 << 32, maxCount - 1, maxCount, 1 << 40, 1<<40 + 1, 1<<41 + 1, 1 << 63, math.MaxUint64}
	someNumbers = []int{math.MinInt, math.MinInt32, -8, -2, -1, 0, 1, 2, 3, 4, 6, 7, 8, 9, 15, 16, 17, 256, 257, 1 << 32, 1<<32 + 1, 1<<62 + 1, math.MaxInt}
	someInos    = []int{math.MinInt, -40, -1, 0, 1, 2, 31, 32, 39, 40, 41, 63, 64, 65, 257, 1<<32 + 1, math.MaxInt}
	someGens    = []int{math.MinInt, -1, 0, 1, 255, math.MaxInt32 - 1, math.MaxInt32, 1 << 31, 1<<32 + 1, math.MaxInt}
	someNames   = []string{"", "a", "!", "~", ".", "..", "...", "/", "a/", "a b", "\x7f", "\x00", "\xff", "\u00e9", long, long + "a", "0123456789abcd\u00e9", strings.Repeat("a", 1<<10)}
	someData    = []string{"", "a", "\x00", "\xff", "a/b", strings.Repeat("a", 63), strings.Repeat("\x00", 64), strings.Repeat("a", 65), strings.Repeat("\u00e9", 33), strings.Repeat("a", 1<<8+1), strings.Repeat("a", 1<<16)}
)

// someErrs answers errors: all that there are, and some that are none.
func someErrs() []api.Errno {
	l := []api.Errno{math.MinInt, -25, -1, 26, 27, 31, 32, 33, 256, 257, 1 << 32, 1<<32 + 1, math.MaxInt}
	for e := range api.Errno(26) {
		l = append(l, e)
	}
	return l
}

// someKinds answers kinds: all that there are, and some that are none.
func someKinds() []int {
	l := slices.Clone(someNumbers)
	for kind := range 16 {
		l = append(l, kind)
	}
	return l
}

// someEntries answers lists of entries, right ones and others.
func someEntries() [][]api.Entry {
	l := [][]api.Entry{nil, {}, counted(1), counted(2), counted(5), counted(6), counted(23), counted(24), counted(25), counted(1 << 10)}
	for _, spoil := range []func(e *api.Entry){
		func(e *api.Entry) { e.Name = "" },
		func(e *api.Entry) { e.Name = ".." },
		func(e *api.Entry) { e.Name = long + "a" },
		func(e *api.Entry) { e.Name = "a" },
		func(e *api.Entry) { e.Name = "z" },
		func(e *api.Entry) { e.Name = counted(2)[0].Name },
		func(e *api.Entry) { e.Name = counted(3)[2].Name },
		func(e *api.Entry) { e.File.Ino = 0 },
		func(e *api.Entry) { e.File.Ino = 41 },
		func(e *api.Entry) { e.File.Gen = -1 },
		func(e *api.Entry) { e.File.Gen = 1 << 31 },
		func(e *api.Entry) { e.Kind = 0 },
		func(e *api.Entry) { e.Kind = 3 },
		func(e *api.Entry) { *e = api.Entry{} },
	} {
		x := counted(3)
		spoil(&x[1])
		l = append(l, x)
	}
	return l
}

// fieldEdges answers setters of each field to values at its edges.
func fieldEdges() [][]setter {
	return [][]setter{
		sets(func(m *api.Message) *int { return &m.Type }, someNumbers...),
		sets(func(m *api.Message) *int { return &m.Client }, someNumbers...),
		sets(func(m *api.Message) *uint64 { return &m.Session }, someCounts...),
		sets(func(m *api.Message) *uint64 { return &m.Seq }, someCounts...),
		sets(func(m *api.Message) *uint64 { return &m.Boot }, someCounts...),
		sets(func(m *api.Message) *int { return &m.Kind }, someKinds()...),
		sets(func(m *api.Message) *api.Errno { return &m.Err }, someErrs()...),
		sets(func(m *api.Message) *int { return &m.File.Ino }, someInos...),
		sets(func(m *api.Message) *int { return &m.File.Gen }, someGens...),
		sets(func(m *api.Message) *api.File { return &m.File }, api.File{}, top, last),
		sets(func(m *api.Message) *int { return &m.Dir.Ino }, someInos...),
		sets(func(m *api.Message) *int { return &m.Dir.Gen }, someGens...),
		sets(func(m *api.Message) *api.File { return &m.Dir }, api.File{}, top, last),
		sets(func(m *api.Message) *string { return &m.Name }, someNames...),
		sets(func(m *api.Message) *string { return &m.Other }, someNames...),
		sets(func(m *api.Message) *int { return &m.Mode }, someNumbers...),
		sets(func(m *api.Message) *int { return &m.At }, someNumbers...),
		sets(func(m *api.Message) *string { return &m.Data }, someData...),
		sets(func(m *api.Message) *uint64 { return &m.Version }, someCounts...),
		sets(func(m *api.Message) *[]api.Entry { return &m.Entries }, someEntries()...),
	}
}
