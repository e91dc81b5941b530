package fstore_test

import (
	"fmt"
	"math"
	"regexp"
	"slices"
	"strings"

	"tenancy/api"
	"tenancy/fstore"
)

const maxCount = 1<<40 - 1

// likeName is what a name looks like; . and .. look like it, and are none.
var likeName = regexp.MustCompile(`\A[!-.0-~]{1,16}\z`)

// isName tells whether a text is a name.
func isName(s string) bool { return likeName.MatchString(s) && s != "." && s != ".." }

// node is what a model has of a number: a file, a directory, or nothing.
type node struct {
	kind, gen int
	version   int
	entries   []api.Entry // by their names
	blocks    [8]string
	at        [8]int // where a directory's, or a file's, blocks lie; 0: nowhere
}

// model is a store told without the package.
type model struct {
	nodes [41]node // by their numbers; there is none of 0
	taken []bool   // of each home
	homes []string // what each home is
}

// bitRow is a home that is spelt bit by bit.
type bitRow struct {
	bytes [128]byte
	n     int
}

// put spells a number in so many bits.
func (r *bitRow) put(x, bits int) {
	for i := bits - 1; i >= 0; i-- {
		if x>>i&1 == 1 {
			r.bytes[r.n/8] |= 128 >> (r.n % 8)
		}
		r.n++
	}
}

// inodeHome spells the home of a node's Inode.
func inodeHome(x node) string {
	r := &bitRow{}
	r.put(x.kind, 2)
	r.put(x.gen, 31)
	r.put(x.version, 40)
	for _, at := range x.at {
		r.put(at, 12)
	}
	return string(r.bytes[:])
}

// dirHome spells the home of at most five entries.
func dirHome(l []api.Entry) string {
	r := &bitRow{}
	for _, e := range l {
		r.put(len(e.Name), 5)
		r.put(e.File.Ino, 6)
		r.put(e.File.Gen, 31)
		r.put(e.Kind, 2)
		for i := range 16 {
			c := 0
			if i < len(e.Name) {
				c = int(e.Name[i])
			}
			r.put(c, 8)
		}
	}
	return string(r.bytes[:])
}

// mapHome spells the home of a Map.
func mapHome(taken []bool) string {
	r := &bitRow{}
	for _, is := range taken {
		if is {
			r.put(1, 1)
		} else {
			r.put(0, 1)
		}
	}
	return string(r.bytes[:])
}

// blockHome spells the home of a file's block.
func blockHome(s string) string {
	return string([]byte{byte(len(s))}) + s + strings.Repeat("\x00", 127-len(s))
}

// newModel answers a store with a root alone.
func newModel(homes int) *model {
	m := &model{taken: make([]bool, homes), homes: make([]string, homes)}
	for i := range homes {
		m.taken[i] = i < 42
		m.homes[i] = strings.Repeat("\x00", 128)
	}
	m.nodes[1] = node{kind: api.KDir, gen: 1}
	m.spell()
	return m
}

// clone answers another one of the same.
func (m *model) clone() *model {
	return &model{nodes: m.nodes, taken: slices.Clone(m.taken), homes: slices.Clone(m.homes)}
}

// spell has homes be as all that there is says; homes of nobody stay.
func (m *model) spell() *model {
	m.homes[1] = mapHome(m.taken)
	for i, x := range m.nodes {
		if i == 0 {
			continue
		}
		m.homes[1+i] = inodeHome(x)
		for k, at := range x.at {
			switch {
			case at == 0:
			case x.kind == api.KDir:
				m.homes[at] = dirHome(x.entries[5*k : min(5*k+5, len(x.entries))])
			default:
				m.homes[at] = blockHome(x.blocks[k])
			}
		}
	}
	return m
}

// wrong tells what is wrong with a file or directory, if it should be of a kind; 0: of any.
func (m *model) wrong(f api.File, kind int) api.Errno {
	if f.Ino < 1 || f.Ino > 40 || m.nodes[f.Ino].kind == 0 || m.nodes[f.Ino].gen != f.Gen {
		return api.ErrGone
	}
	if kind != 0 && m.nodes[f.Ino].kind != kind {
		return api.ErrKind
	}
	return api.OK
}

// entry answers what a directory has of a name.
func (m *model) entry(ino int, s string) (api.Entry, bool) {
	for _, e := range m.nodes[ino].entries {
		if e.Name == s {
			return e, true
		}
	}
	return api.Entry{}, false
}

// isUnder tells whether a directory is another one, or lies below it.
func (m *model) isUnder(f, above api.File) bool {
	if f == above {
		return true
	}
	for i, x := range m.nodes {
		for _, e := range x.entries {
			if e.File == f && x.kind == api.KDir {
				return m.isUnder(api.File{Ino: i, Gen: x.gen}, above)
			}
		}
	}
	return false
}

// place has a block of a node lie somewhere or nowhere, and tells whether there is room.
func (m *model) place(ino, k int, somewhere bool) bool {
	at := &m.nodes[ino].at[k]
	if somewhere && *at == 0 {
		i := slices.Index(m.taken, false)
		if i < 0 {
			return false
		}
		m.taken[i], *at = true, i
	}
	if !somewhere && *at != 0 {
		m.taken[*at], *at = false, 0
	}
	return true
}

// setEntries has a directory have these entries, and tells whether there is room.
func (m *model) setEntries(ino int, l []api.Entry) bool {
	if len(l) > 24 {
		return false
	}
	m.nodes[ino].entries = l
	for k := range 8 {
		if !m.place(ino, k, 5*k < len(l)) {
			return false
		}
	}
	return true
}

// with answers entries with one more, by their names, in place of one of its name.
func with(l []api.Entry, e api.Entry) []api.Entry {
	l = append(without(l, e.Name), e)
	slices.SortFunc(l, func(a, b api.Entry) int { return strings.Compare(a.Name, b.Name) })
	return l
}

// without answers entries without one.
func without(l []api.Entry, s string) []api.Entry {
	return slices.DeleteFunc(slices.Clone(l), func(e api.Entry) bool { return e.Name == s })
}

// drop frees a node.
func (m *model) drop(ino int) {
	for k := range 8 {
		m.place(ino, k, false)
	}
	m.nodes[ino] = node{gen: m.nodes[ino].gen}
}

// touch has nodes' versions be one more, and tells whether they may be.
func (m *model) touch(l ...int) bool {
	for _, ino := range l {
		m.nodes[ino].version++
		if m.nodes[ino].version > maxCount {
			return false
		}
	}
	return true
}

// answer is what a call tells.
type answer struct {
	err     api.Errno
	file    api.File
	entry   api.Entry
	entries []api.Entry
	attr    api.Attr
	data    string
	version uint64
}

// is tells whether two are the same; lists of none are alike.
func (a answer) is(b answer) bool {
	return slices.Equal(a.entries, b.entries) && a.err == b.err && a.file == b.file && a.entry == b.entry && a.attr == b.attr && a.data == b.data && a.version == b.version
}

// String tells all of it.
func (a answer) String() string {
	return fmt.Sprintf("error %d, %v, %v, %v, %v, %q, %d", a.err, a.file, a.entry, a.entries, a.attr, a.data, a.version)
}

// op is a call of a store.
type op struct {
	call string
	f, g api.File
	s, u string // names, or data
	at   int    // a block, or a kind
}

// onStore does a call.
func (o op) onStore(s *fstore.Store) (a answer) {
	switch o.call {
	case "Lookup":
		a.entry, a.err = s.Lookup(o.f, o.s)
	case "List":
		a.entries, a.err = s.List(o.f)
	case "Attr":
		a.attr, a.err = s.Attr(o.f)
	case "Read":
		a.data, a.version, a.err = s.Read(o.f, o.at)
	case "Create":
		a.file, a.err = s.Create(o.f, o.s, o.at)
	case "Remove":
		a.err = s.Remove(o.f, o.s)
	case "Rename":
		a.err = s.Rename(o.f, o.s, o.g, o.u)
	case "Write":
		a.version, a.err = s.Write(o.f, o.at, o.s)
	case "Truncate":
		a.version, a.err = s.Truncate(o.f)
	case "Record":
		b, e := s.Record()
		a.data, a.err = string(b), e
	case "SetRecord":
		a.err = s.SetRecord([]byte(o.s))
	default:
		panic(o.call)
	}
	return a
}

// onModel answers what a call should tell, and what is then.
func (o op) onModel(m *model) (answer, *model) {
	switch o.call {
	case "Lookup":
		return m.lookup(o), m
	case "List":
		return m.list(o), m
	case "Attr":
		return m.attr(o), m
	case "Read":
		return m.read(o), m
	case "Record":
		return answer{data: m.homes[0]}, m
	}
	after := m.clone()
	a := o.changes(after)
	if a.err != api.OK {
		return a, m
	}
	return a, after.spell()
}

// changes does a call that changes something; where it errs the model is done with.
func (o op) changes(m *model) answer {
	switch o.call {
	case "Create":
		return m.create(o)
	case "Remove":
		return m.remove(o)
	case "Rename":
		return m.rename(o)
	case "Write":
		return m.write(o)
	case "Truncate":
		return m.truncate(o)
	case "SetRecord":
		return m.setRecord(o)
	}
	panic(o.call)
}

func (m *model) list(o op) answer {
	if e := m.wrong(o.f, api.KDir); e != api.OK {
		return answer{err: e}
	}
	return answer{entries: m.nodes[o.f.Ino].entries}
}

func (m *model) setRecord(o op) answer {
	if len(o.s) != 128 {
		return answer{err: api.ErrArg}
	}
	m.homes[0] = o.s
	return answer{}
}

func (m *model) lookup(o op) answer {
	if !isName(o.s) {
		return answer{err: api.ErrName}
	}
	if e := m.wrong(o.f, api.KDir); e != api.OK {
		return answer{err: e}
	}
	x, ok := m.entry(o.f.Ino, o.s)
	if !ok {
		return answer{err: api.ErrNone}
	}
	return answer{entry: x}
}

func (m *model) attr(o op) answer {
	if e := m.wrong(o.f, 0); e != api.OK {
		return answer{err: e}
	}
	x := m.nodes[o.f.Ino]
	n := len(x.entries)
	for _, s := range x.blocks {
		if s != "" {
			n++
		}
	}
	return answer{attr: api.Attr{Kind: x.kind, Version: uint64(x.version), Blocks: n}}
}

func (m *model) read(o op) answer {
	if o.at < 0 || o.at > 7 {
		return answer{err: api.ErrArg}
	}
	if e := m.wrong(o.f, api.KFile); e != api.OK {
		return answer{err: e}
	}
	x := m.nodes[o.f.Ino]
	return answer{data: x.blocks[o.at], version: uint64(x.version)}
}

func (m *model) create(o op) answer {
	if !isName(o.s) {
		return answer{err: api.ErrName}
	}
	if o.at != api.KDir && o.at != api.KFile {
		return answer{err: api.ErrArg}
	}
	if e := m.wrong(o.f, api.KDir); e != api.OK {
		return answer{err: e}
	}
	if _, ok := m.entry(o.f.Ino, o.s); ok {
		return answer{err: api.ErrThere}
	}
	ino := slices.IndexFunc(m.nodes[1:], func(x node) bool { return x.kind == 0 && x.gen < math.MaxInt32 }) + 1
	if ino == 0 {
		return answer{err: api.ErrFull}
	}
	f := api.File{Ino: ino, Gen: m.nodes[ino].gen + 1}
	m.nodes[ino] = node{kind: o.at, gen: f.Gen, version: 1}
	if !m.setEntries(o.f.Ino, with(m.nodes[o.f.Ino].entries, api.Entry{Name: o.s, File: f, Kind: o.at})) || !m.touch(o.f.Ino) {
		return answer{err: api.ErrFull}
	}
	return answer{file: f}
}

func (m *model) remove(o op) answer {
	if !isName(o.s) {
		return answer{err: api.ErrName}
	}
	if e := m.wrong(o.f, api.KDir); e != api.OK {
		return answer{err: e}
	}
	x, ok := m.entry(o.f.Ino, o.s)
	if !ok {
		return answer{err: api.ErrNone}
	}
	if len(m.nodes[x.File.Ino].entries) > 0 {
		return answer{err: api.ErrNotEmpty}
	}
	m.drop(x.File.Ino)
	m.setEntries(o.f.Ino, without(m.nodes[o.f.Ino].entries, o.s))
	if !m.touch(o.f.Ino) {
		return answer{err: api.ErrFull}
	}
	return answer{}
}

// moves tells what is wrong with a Rename, up to what has no room; and whether nothing happens.
func (m *model) moves(o op) (nothing bool, err api.Errno) {
	if !isName(o.s) || !isName(o.u) {
		return false, api.ErrName
	}
	for _, f := range []api.File{o.f, o.g} {
		if e := m.wrong(f, api.KDir); e != api.OK {
			return false, e
		}
	}
	x, ok := m.entry(o.f.Ino, o.s)
	if !ok {
		return false, api.ErrNone
	}
	if o.f == o.g && o.s == o.u {
		return true, api.OK
	}
	if x.Kind == api.KDir && m.isUnder(o.g, x.File) {
		return false, api.ErrArg
	}
	old, ok := m.entry(o.g.Ino, o.u)
	if ok && old.Kind != x.Kind {
		return false, api.ErrKind
	}
	if ok && len(m.nodes[old.File.Ino].entries) > 0 {
		return false, api.ErrNotEmpty
	}
	return false, api.OK
}

func (m *model) rename(o op) answer {
	nothing, e := m.moves(o)
	if nothing || e != api.OK {
		return answer{err: e}
	}
	x, _ := m.entry(o.f.Ino, o.s)
	if old, ok := m.entry(o.g.Ino, o.u); ok {
		m.drop(old.File.Ino)
	}
	m.setEntries(o.f.Ino, without(m.nodes[o.f.Ino].entries, o.s))
	x.Name = o.u
	room := m.setEntries(o.g.Ino, with(m.nodes[o.g.Ino].entries, x)) && m.touch(o.f.Ino)
	if !room || o.f != o.g && !m.touch(o.g.Ino) {
		return answer{err: api.ErrFull}
	}
	return answer{}
}

func (m *model) write(o op) answer {
	if o.at < 0 || o.at > 7 {
		return answer{err: api.ErrArg}
	}
	if len(o.s) > 64 {
		return answer{err: api.ErrBig}
	}
	if e := m.wrong(o.f, api.KFile); e != api.OK {
		return answer{err: e}
	}
	if !m.place(o.f.Ino, o.at, o.s != "") || !m.touch(o.f.Ino) {
		return answer{err: api.ErrFull}
	}
	m.nodes[o.f.Ino].blocks[o.at] = o.s
	return answer{version: uint64(m.nodes[o.f.Ino].version)}
}

func (m *model) truncate(o op) answer {
	if e := m.wrong(o.f, api.KFile); e != api.OK {
		return answer{err: e}
	}
	if !m.touch(o.f.Ino) {
		return answer{err: api.ErrFull}
	}
	for k := range 8 {
		m.place(o.f.Ino, k, false)
	}
	m.nodes[o.f.Ino].blocks = [8]string{}
	return answer{version: uint64(m.nodes[o.f.Ino].version)}
}
