package fstore

import (
	"bytes"

	"tenancy/alloc"
	"tenancy/api"
	"tenancy/dir"
	"tenancy/inode"
	"tenancy/name"
)

// made tells whether Open made the store.
func (s *Store) made() bool { return s != nil && s.log != nil }

// isStore tells whether homes are a Map, and Inodes.
func (s *Store) isStore() api.Errno {
	if _, e := s.taken(); e != api.OK {
		return e
	}
	for i := range api.MaxFiles {
		if _, e := s.inode(1 + i); e != api.OK {
			return e
		}
	}
	return api.OK
}

// check tells whether texts are names.
func check(l ...string) api.Errno {
	for _, text := range l {
		if e := name.Check(text); e != api.OK {
			return e
		}
	}
	return api.OK
}

// isBlock tells whether a file has a block of this number.
func isBlock(at int) bool { return at >= 0 && at < api.MaxBlocks }

// home answers what a home is.
func (s *Store) home(at int) ([]byte, api.Errno) {
	if b, ok := s.otherwise[at]; ok {
		return b[:], api.OK
	}
	return s.log.Read(at)
}

// taken answers the Map of all homes.
func (s *Store) taken() (*alloc.Map, api.Errno) {
	b, e := s.home(mapAt)
	if e != api.OK {
		return nil, e
	}
	return alloc.Load(b, s.log.Homes())
}

// inode answers the Inode of a number that has one.
func (s *Store) inode(ino int) (inode.Inode, api.Errno) {
	b, e := s.home(inodesAt + ino)
	if e != api.OK {
		return inode.Inode{}, e
	}
	return inode.Decode(b)
}

// file answers the Inode of a file or directory.
func (s *Store) file(f api.File) (inode.Inode, api.Errno) {
	if f.Ino < 1 || f.Ino > api.MaxFiles {
		return inode.Inode{}, api.ErrGone
	}
	x, e := s.inode(f.Ino)
	if e != api.OK {
		return inode.Inode{}, e
	}
	if x.Kind == free || x.Gen != f.Gen {
		return inode.Inode{}, api.ErrGone
	}
	return x, api.OK
}

// ofKind answers the Inode of a file, or of a directory, as kind says.
func (s *Store) ofKind(f api.File, kind int) (inode.Inode, api.Errno) {
	x, e := s.file(f)
	if e != api.OK {
		return inode.Inode{}, e
	}
	if x.Kind != kind {
		return inode.Inode{}, api.ErrKind
	}
	return x, api.OK
}

// areDirs tells whether all are directories that are there.
func (s *Store) areDirs(l ...api.File) api.Errno {
	for _, f := range l {
		if _, e := s.ofKind(f, api.KDir); e != api.OK {
			return e
		}
	}
	return api.OK
}

// entries answers a directory's entries.
func (s *Store) entries(in api.File) ([]api.Entry, api.Errno) {
	x, e := s.ofKind(in, api.KDir)
	if e != api.OK {
		return nil, e
	}
	var blocks [][]byte
	for _, at := range inode.Places(x) {
		b, e := s.home(at)
		if e != api.OK {
			return nil, e
		}
		blocks = append(blocks, b)
	}
	return dir.Entries(blocks)
}

// find answers the entry that a directory has of a name.
func (s *Store) find(in api.File, word string) (api.Entry, api.Errno) {
	l, e := s.entries(in)
	if e != api.OK {
		return api.Entry{}, e
	}
	i, ok := dir.Find(l, word)
	if !ok {
		return api.Entry{}, api.ErrNone
	}
	return l[i], api.OK
}

// mayFree tells whether what an entry names may be freed: of a directory, whether it has no entries.
func (s *Store) mayFree(x api.Entry) api.Errno {
	if x.Kind != api.KDir {
		return api.OK
	}
	l, e := s.entries(x.File)
	if len(l) > 0 {
		return api.ErrNotEmpty
	}
	return e
}

// mayHold tells whether a directory may have an entry: none that is a directory which is itself, or which it lies below.
func (s *Store) mayHold(in api.File, x api.Entry) api.Errno {
	if x.Kind != api.KDir {
		return api.OK
	}
	below := []api.File{x.File}
	// There are no more directories than files, whatever a disk says of which lies in which.
	for i := 0; i < len(below) && i < api.MaxFiles; i++ {
		if below[i] == in {
			return api.ErrArg
		}
		l, e := s.entries(below[i])
		if e != api.OK {
			return e
		}
		for _, y := range l {
			if y.Kind == api.KDir {
				below = append(below, y.File)
			}
		}
	}
	return api.OK
}

// data answers what a block is that lies at a home, or nowhere.
func (s *Store) data(at int) (string, api.Errno) {
	if at == nowhere {
		return "", api.OK
	}
	b, e := s.home(at)
	if e != api.OK {
		return "", e
	}
	n := min(int(b[0]), api.MaxData)
	data := string(b[1:][:n])
	// A block has one home's bytes alone: so these are data's just if they are those.
	if !bytes.Equal(block(data), b) {
		return "", api.ErrForm
	}
	return data, api.OK
}

// block answers what the home of a block is; none of an empty one.
func block(data string) []byte {
	if data == "" {
		return nil
	}
	b := make([]byte, api.Sector)
	b[0] = byte(len(data))
	copy(b[1:], data)
	return b
}
