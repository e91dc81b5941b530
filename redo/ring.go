package redo

import (
	"tenancy/api"
	"tenancy/disk"
	"tenancy/lap"
)

// topEpoch answers the greatest epoch at an end of a disk's first n sectors. It asks for both ends, as of a sector that was torn one end alone may have it.
func topEpoch(d *disk.Disk, n int) uint64 {
	var top uint64
	for i := range n {
		// A sector that is there is always read.
		b, _ := d.Read(i)
		ahead, behind := lap.Ends(b)
		top = max(top, ahead, behind)
	}
	return top
}

// replay does what the ring says. A record's epoch is a floor for those behind it: else, where a life writes anew what an elder one lost, the elder one's pieces behind would be taken for what follows.
func (l *Log) replay() {
	floor := l.head.Floor
	for {
		pieces := l.pieces()
		record, e := lap.Join(pieces)
		if e != api.OK || pieces[0].Epoch < floor {
			return
		}
		puts, ok := decode(record)
		if !ok || !isTransaction(puts, l.Homes()) {
			return
		}
		l.take(puts, len(pieces))
		floor = pieces[0].Epoch
	}
}

// pieces answers the ring's pieces from the next count on up to one that is Last; none, if one is missing. They are no more than the ring has places, as at a place stands one count's alone.
func (l *Log) pieces() []lap.Piece {
	var found []lap.Piece
	for count := l.next; ; count++ {
		b, _ := l.disk.Read(l.place(count))
		p, e := lap.Unseal(b)
		if e != api.OK || p.Count != count {
			return nil
		}
		found = append(found, p)
		if p.Last {
			return found
		}
	}
}

// lay writes a piece at its place.
func (l *Log) lay(p lap.Piece) api.Errno {
	b, e := lap.Seal(p)
	if e != api.OK {
		return e
	}
	return l.disk.Write(l.place(p.Count), b)
}

// place answers the sector of the piece of a count.
func (l *Log) place(count uint64) int { return ringAt + int(count%uint64(l.ring)) }
