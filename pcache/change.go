package pcache

import (
	"tenancy/api"
	"tenancy/slot"
)

// place is what a Slot is to be.
type place struct {
	at int
	is slot.Slot
}

// placeFor answers where a block is to be kept: where it is already, if it is.
func (c *Cache) placeFor(b api.Block) (int, api.Errno) {
	if i, ok := c.places[b]; ok {
		return i, api.OK
	}
	return c.turns.Next()
}

// change has Slots be so: all of them, or, with an error, none.
func (c *Cache) change(l []place) api.Errno {
	var puts []api.Put
	for _, p := range l {
		// What is handed in was asked by Put; what is made here is a Slot.
		b, _ := slot.Encode(p.is)
		puts = append(puts, api.Put{At: slotsAt + p.at, Data: b})
	}
	if e := c.write(puts); e != api.OK {
		return e
	}
	for _, p := range l {
		c.lay(p)
	}
	return api.OK
}

// write writes homes as one transaction; where the ring is full all is brought home ahead.
func (c *Cache) write(puts []api.Put) api.Errno {
	// A file of which nothing is kept is dropped, too: then there is nothing to write.
	if len(puts) == 0 {
		return api.OK
	}
	e := c.log.Write(puts)
	if e != api.ErrFull {
		return e
	}
	if e := c.log.Checkpoint(); e != api.OK {
		return e
	}
	return c.log.Write(puts)
}

// lay has a Slot be so. Whether its place is used, and pinned, is not asked here.
func (c *Cache) lay(p place) {
	delete(c.places, c.slots[p.at].Block)
	c.slots[p.at] = p.is
	if !slot.Free(p.is) {
		c.places[p.is.Block] = p.at
	}
}

// free has Slots be free.
func (c *Cache) free(l []int) api.Errno {
	var zero []place
	for _, i := range l {
		zero = append(zero, place{at: i})
	}
	if e := c.change(zero); e != api.OK {
		return e
	}
	for _, i := range l {
		c.turns.Drop(i)
	}
	return api.OK
}

// use has the place of a Slot that is not free be used, and pinned just if it is dirty.
func (c *Cache) use(i int) {
	c.turns.Use(i)
	if c.slots[i].Dirty {
		c.turns.Pin(i)
	}
}
