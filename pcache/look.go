package pcache

import (
	"slices"

	"tenancy/api"
	"tenancy/slot"
)

// of answers what tells whether a Slot keeps a block of a file.
func of(f api.File) func(slot.Slot) bool {
	return func(x slot.Slot) bool { return x.Block.File == f }
}

// those answers which Slots are such, of those that are not free.
func (c *Cache) those(such func(slot.Slot) bool) []int {
	var l []int
	for i, x := range c.slots {
		if !slot.Free(x) && such(x) {
			l = append(l, i)
		}
	}
	return l
}

// list answers what is kept that is such, by its blocks.
func (c *Cache) list(such func(slot.Slot) bool) []slot.Slot {
	if !c.made() {
		return nil
	}
	var l []slot.Slot
	for _, i := range c.those(such) {
		l = append(l, c.slots[i])
	}
	slices.SortFunc(l, func(a, b slot.Slot) int { return slot.Order(a.Block, b.Block) })
	return l
}
