package pcache

import (
	"bytes"

	"tenancy/api"
	"tenancy/slot"
)

// load takes up what the homes have.
func (c *Cache) load() api.Errno {
	// Open saw that these homes are there: they are read always.
	b, _ := c.log.Read(numberAt)
	x, ok := decodeNumber(b)
	if !ok {
		return api.ErrForm
	}
	c.number = x
	for i := range c.slots {
		b, _ := c.log.Read(slotsAt + i)
		x, e := slot.Decode(b)
		if e != api.OK {
			return e
		}
		if e := c.take(place{i, x}); e != api.OK {
			return e
		}
	}
	return api.OK
}

// take takes up one Slot.
func (c *Cache) take(p place) api.Errno {
	if slot.Free(p.is) {
		return api.OK
	}
	if _, ok := c.places[p.is.Block]; ok {
		return api.ErrForm
	}
	c.lay(p)
	c.use(p.at)
	return api.OK
}

// encodeNumber answers a number's sector.
func encodeNumber(x uint64) []byte {
	b := make([]byte, api.Sector)
	for i := len(b) - 1; x > 0; i-- {
		b[i] = byte(x)
		x >>= 8
	}
	return b
}

// decodeNumber answers the number of a sector, and whether it is one's.
func decodeNumber(b []byte) (uint64, bool) {
	var x uint64
	for _, c := range b {
		x = x<<8 | uint64(c)
	}
	return x, x <= api.MaxCount && bytes.Equal(b, encodeNumber(x))
}
