package fstore

import (
	"maps"
	"slices"

	"tenancy/alloc"
	"tenancy/api"
	"tenancy/dir"
	"tenancy/inode"
)

// change is its store as it will be: homes that are otherwise are those that it writes. It keeps its first error; what is done behind that changes nothing, so one question at the end is enough.
type change struct {
	Store
	of  *Store
	err api.Errno
}

// change answers one of which nothing is done yet.
func (s *Store) change() *change {
	return &change{Store: Store{log: s.log, otherwise: maps.Clone(s.otherwise)}, of: s}
}

// note keeps the first error.
func (c *change) note(e api.Errno) {
	if c.err == api.OK {
		c.err = e
	}
}

// put has a home be otherwise.
func (c *change) put(at int, b []byte) {
	if c.err == api.OK {
		c.otherwise[at] = sector(b)
	}
}

// set has the Inode of a number be another one.
func (c *change) set(ino int, x inode.Inode) {
	b, e := inode.Encode(x)
	c.note(e)
	c.put(inodesAt+ino, b)
}

// begin lays a store's first Map, and its root.
func (c *change) begin() {
	m, e := alloc.New(c.log.Homes())
	c.note(e)
	for i := range blocksAt {
		c.note(m.Hold(i))
	}
	c.put(mapAt, m.Bytes())
	c.set(Root().Ino, inode.Inode{Kind: api.KDir, Gen: Root().Gen})
}

// take takes a new home.
func (c *change) take() int {
	m, e := c.taken()
	c.note(e)
	at, e := m.Take()
	c.note(e)
	c.put(mapAt, m.Bytes())
	return at
}

// give has a home be free.
func (c *change) give(at int) {
	m, e := c.taken()
	c.note(e)
	c.note(m.Give(at))
	c.put(mapAt, m.Bytes())
}

// place has a block, which lies at a home or nowhere, have these bytes, or be empty, if there are none; it answers where it lies then.
func (c *change) place(at int, b []byte) int {
	if len(b) == 0 {
		if at != nowhere {
			c.give(at)
		}
		return nowhere
	}
	if at == nowhere {
		at = c.take()
	}
	c.put(at, b)
	return at
}

// fill has an Inode's first blocks have these bytes, and all others be empty.
func (c *change) fill(x inode.Inode, blocks [][]byte) inode.Inode {
	for i, at := range x.Blocks {
		var b []byte
		if i < len(blocks) {
			b = blocks[i]
		}
		x.Blocks[i] = c.place(at, b)
	}
	return x
}

// add makes a file or a directory, which nobody has as an entry yet.
func (c *change) add(kind int) api.File {
	for i := range api.MaxFiles {
		f := api.File{Ino: 1 + i}
		x, e := c.inode(f.Ino)
		c.note(e)
		if x.Kind == free && x.Gen < maxGen {
			f.Gen = x.Gen + 1
			c.set(f.Ino, inode.Inode{Kind: kind, Gen: f.Gen, Version: 1})
			return f
		}
	}
	c.note(api.ErrFull)
	return api.File{}
}

// free frees a file's blocks, and its Inode.
func (c *change) free(f api.File) {
	x, e := c.file(f)
	c.note(e)
	c.fill(x, nil)
	c.set(f.Ino, inode.Inode{Gen: x.Gen})
}

// replace frees what a directory has of a name, if there is anything; it must be of this kind, and such as may be freed.
func (c *change) replace(in api.File, word string, kind int) {
	x, e := c.find(in, word)
	if e == api.ErrNone {
		return
	}
	c.note(e)
	if x.Kind != kind {
		c.note(api.ErrKind)
	}
	c.note(c.mayFree(x))
	c.free(x.File)
}

// enter has a directory have an entry, in place of one of its name.
func (c *change) enter(in api.File, x api.Entry) {
	l, e := c.entries(in)
	c.note(e)
	c.setEntries(in, dir.Put(l, x))
}

// leave has a directory have no entry of a name.
func (c *change) leave(in api.File, word string) {
	l, e := c.entries(in)
	c.note(e)
	c.setEntries(in, dir.Drop(l, word))
}

// setEntries has a directory have these entries alone.
func (c *change) setEntries(in api.File, l []api.Entry) {
	blocks, e := dir.Blocks(l)
	c.note(e)
	x, e := c.file(in)
	c.note(e)
	c.set(in.Ino, c.fill(x, blocks))
}

// touch has a file's Version be one more.
func (c *change) touch(f api.File) {
	x, e := c.file(f)
	c.note(e)
	if x.Version == api.MaxCount {
		c.note(api.ErrFull)
	}
	x.Version++
	c.set(f.Ino, x)
}

// endWith ends a change of a file, whose Inode is this one but for its Version; it answers that.
func (c *change) endWith(f api.File, x inode.Inode) (uint64, api.Errno) {
	c.set(f.Ino, x)
	c.touch(f)
	if e := c.end(); e != api.OK {
		return 0, e
	}
	return x.Version + 1, api.OK
}

// end has a change be, and last. Where it was written and does not last, its store tells these homes as they were: what errs changes nothing.
func (c *change) end() api.Errno {
	before := c.before()
	if c.err != api.OK {
		return c.err
	}
	if e := c.write(); e != api.OK {
		return e
	}
	if e := c.log.Sync(); e != api.OK {
		maps.Copy(c.of.otherwise, before)
		return e
	}
	return api.OK
}

// before answers what homes are in the store that the change has otherwise. One that is the same in both is no longer written.
func (c *change) before() map[int]sector {
	before := map[int]sector{}
	for at, b := range c.otherwise {
		old, e := c.of.home(at)
		if e != api.OK {
			c.note(e)
			continue
		}
		before[at] = sector(old)
		if before[at] == b {
			delete(c.otherwise, at)
		}
	}
	return before
}

// write writes what is otherwise as one transaction; where the ring is full all is brought home ahead.
func (c *change) write() api.Errno {
	puts := c.puts()
	// A record may be set to what it is: then there is nothing to write.
	if len(puts) == 0 {
		return api.OK
	}
	e := c.log.Write(puts)
	if e != api.ErrFull {
		return e
	}
	if e := c.log.Checkpoint(); e != api.OK {
		return e
	}
	return c.log.Write(puts)
}

// puts answers what is otherwise, by rising homes.
func (c *change) puts() []api.Put {
	var l []api.Put
	for _, at := range slices.Sorted(maps.Keys(c.otherwise)) {
		b := c.otherwise[at]
		l = append(l, api.Put{At: at, Data: b[:]})
	}
	return l
}
