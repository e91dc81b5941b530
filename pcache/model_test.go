package pcache_test

import (
	"cmp"
	"fmt"
	"math"
	"math/big"
	"math/rand"
	"slices"
	"strings"
	"testing"

	"tenancy/api"
	"tenancy/pcache"
	"tenancy/slot"
)

const maxCount = 1<<40 - 1

// model is what a cache should be, told without the package and those below it: what each place keeps, and whether it is marked; where the hand is.
type model struct {
	slots  []slot.Slot
	marked []bool
	hand   int
	number uint64
}

// numberHome answers the sector of a number.
func numberHome(x uint64) string {
	return strings.Repeat("\x00", 120) + string(new(big.Int).SetUint64(x).FillBytes(make([]byte, 8)))
}

// spelt answers a number in so many digits 0 and 1.
func spelt(x uint64, n int) string { return fmt.Sprintf("%0*b", n, x) }

// widths are how many bits each part of a Slot's sector has, but for its Data.
var widths = []int{1, 1, 6, 31, 3, 40, 16}

// slotHome answers the sector of a Slot.
func slotHome(x slot.Slot) string {
	if !x.Used {
		return strings.Repeat("\x00", 128)
	}
	dirty := 0
	if x.Dirty {
		dirty = 1
	}
	f := x.Block.File
	b, bit := make([]byte, 128), 0
	lay := func(x uint64, n int) {
		for i := n - 1; i >= 0; i-- {
			b[bit/8] |= byte(x>>i&1) << (7 - bit%8)
			bit++
		}
	}
	for i, part := range []int{1, dirty, f.Ino, f.Gen, x.Block.At, int(x.Version), len(x.Data)} {
		lay(uint64(part), widths[i])
	}
	for _, c := range []byte(x.Data) {
		lay(uint64(c), 8)
	}
	return string(b)
}

// modelOf answers what a cache that is opened should be, by its homes, which are right.
func modelOf(homes []string) *model {
	m := &model{number: new(big.Int).SetBytes([]byte(homes[0])).Uint64()}
	for _, s := range homes[1:] {
		x := slotOf(s)
		m.slots, m.marked = append(m.slots, x), append(m.marked, x.Used)
	}
	return m
}

// slotOf answers the Slot of a sector that is one's, but for its Data, if they are more than the sector has room for.
func slotOf(s string) slot.Slot {
	bit := 0
	part := func(n int) int {
		x := 0
		for range n {
			x = x<<1 | int(s[bit/8]>>(7-bit%8)&1)
			bit++
		}
		return x
	}
	var l [7]int
	for i, n := range widths {
		l[i] = part(n)
	}
	data := make([]byte, min(l[6], 64))
	for i := range data {
		data[i] = byte(part(8))
	}
	return slot.Slot{
		Used:    l[0] == 1,
		Dirty:   l[1] == 1,
		Block:   api.Block{File: api.File{Ino: l[2], Gen: l[3]}, At: l[4]},
		Version: uint64(l[5]),
		Data:    string(data),
	}
}

// spell answers homes with the model's in front.
func (m *model) spell(homes []string) []string {
	l := slices.Clone(homes)
	l[0] = numberHome(m.number)
	for i, x := range m.slots {
		l[1+i] = slotHome(x)
	}
	return l
}

// clone answers another model of the same.
func (m *model) clone() *model {
	return &model{slices.Clone(m.slots), slices.Clone(m.marked), m.hand, m.number}
}

// place answers where a block is kept, or -1.
func (m *model) place(b api.Block) int {
	return slices.IndexFunc(m.slots, func(x slot.Slot) bool { return x.Used && x.Block == b })
}

// all answers what is kept that is such, by blocks.
func (m *model) all(such func(slot.Slot) bool) []slot.Slot {
	var l []slot.Slot
	for _, x := range m.slots {
		if x.Used && such(x) {
			l = append(l, x)
		}
	}
	slices.SortFunc(l, func(x, y slot.Slot) int {
		a, b := x.Block, y.Block
		return cmp.Or(cmp.Compare(a.File.Ino, b.File.Ino), cmp.Compare(a.File.Gen, b.File.Gen), cmp.Compare(a.At, b.At))
	})
	return l
}

// files answers all files of which something is kept, and some others: such as differ from these by little, and none.
func (m *model) files() []api.File {
	l := []api.File{{}, {Ino: -1, Gen: 1}, {Ino: 41, Gen: math.MaxInt}}
	for _, x := range m.slots {
		f := x.Block.File
		if x.Used && !slices.Contains(l, f) {
			l = append(l, f, api.File{Ino: f.Ino, Gen: f.Gen + 1}, api.File{Ino: f.Ino + 1, Gen: f.Gen})
		}
	}
	return l
}

// next answers which place is to be given up. It is told without going around a second time: those that are not dirty stand in a row from the hand on, of which the first without a mark is it, or else the first; all ahead of it lose their marks, or else all.
func (m *model) next() int {
	for i, x := range m.slots {
		if !x.Used {
			return i
		}
	}
	var row []int
	for k := range m.slots {
		if i := (m.hand + k) % len(m.slots); !m.slots[i].Dirty {
			row = append(row, i)
		}
	}
	if len(row) == 0 {
		return -1
	}
	at := row[0]
	for _, i := range row {
		if !m.marked[i] {
			at = i
			break
		}
		m.marked[i] = false
	}
	m.hand = (at + 1) % len(m.slots)
	return at
}

// isKept tells whether x is a Slot that is not free, condition by condition.
func isKept(x slot.Slot) bool {
	f := x.Block.File
	return x.Used && f.Ino >= 1 && f.Ino <= 40 && f.Gen >= 0 && f.Gen <= math.MaxInt32 && x.Block.At >= 0 && x.Block.At <= 7 && x.Version <= maxCount && len(x.Data) <= 64
}

// op is a call: a Put is of x, all others of its block, or of that one's file; n is a version, or a number.
type op struct {
	call string
	x    slot.Slot
	n    uint64
}

// answer is what a call tells.
type answer struct {
	x   slot.Slot
	ok  bool
	err api.Errno
}

// is tells whether two answers are the same.
func (a answer) is(b answer) bool { return a == b }

// onCache does a call on a cache.
func (o op) onCache(c *pcache.Cache) (a answer) {
	switch b := o.x.Block; o.call {
	case "Get":
		a.x, a.ok = c.Get(b)
	case "Put":
		a.err = c.Put(o.x)
	case "Drop":
		a.err = c.Drop(b)
	case "DropFile":
		a.err = c.DropFile(b.File)
	case "Retag":
		a.err = c.Retag(b.File, o.n)
	case "SetNumber":
		a.err = c.SetNumber(o.n)
	case "Sync":
		a.err = c.Sync()
	}
	return a
}

// onModel does a call on a model.
func (o op) onModel(m *model) (a answer) {
	i := m.place(o.x.Block)
	switch o.call {
	case "Get":
		if i >= 0 {
			m.marked[i] = true
			a = answer{x: m.slots[i], ok: true}
		}
	case "Put":
		a.err = m.put(o.x, i)
	case "Drop":
		if i < 0 {
			return answer{err: api.ErrNone}
		}
		m.slots[i], m.marked[i] = slot.Slot{}, false
	case "DropFile":
		for i, x := range m.slots {
			if x.Used && x.Block.File == o.x.Block.File {
				m.slots[i], m.marked[i] = slot.Slot{}, false
			}
		}
	case "Retag":
		if o.n > maxCount {
			return answer{err: api.ErrArg}
		}
		for i, x := range m.slots {
			if x.Used && !x.Dirty && x.Block.File == o.x.Block.File {
				m.slots[i].Version = o.n
			}
		}
	case "SetNumber":
		if o.n > maxCount {
			return answer{err: api.ErrArg}
		}
		m.number = o.n
	}
	return a
}

// put has place i, or, if that is -1, the next one, keep x.
func (m *model) put(x slot.Slot, i int) api.Errno {
	if !isKept(x) {
		return api.ErrArg
	}
	if i < 0 {
		i = m.next()
	}
	if i < 0 {
		return api.ErrFull
	}
	m.slots[i], m.marked[i] = x, true
	return api.OK
}

// someOf answers one of a list.
func someOf[T any](r *rand.Rand, l ...T) T { return l[r.Intn(len(l))] }

// chance makes calls: each Put has Data, each Retag a version, each SetNumber a number such as none had ahead, so that each of them changes something.
type chance struct {
	*rand.Rand
	files int // of so many files' blocks
	dirty int // of ten Puts so many are dirty ones
	count uint64
}

// block answers one of the chance's blocks.
func (r *chance) block() api.Block {
	k := r.Intn(r.files)
	return api.Block{File: api.File{Ino: 1 + k/2*13%40, Gen: k % 2 * someOf(r.Rand, 1, 1, 1, math.MaxInt32)}, At: r.Intn(8)}
}

// wrong answers what is no Slot that is not free.
func (r *chance) wrong(x slot.Slot) slot.Slot {
	switch r.Intn(8) {
	case 0:
		return slot.Slot{}
	case 1:
		x.Used = false
	case 2:
		x.Block.File.Ino = someOf(r.Rand, 0, 41, -1, 1<<32+1, math.MaxInt, math.MinInt)
	case 3:
		x.Block.File.Gen = someOf(r.Rand, -1, 1<<31, 1<<32, math.MaxInt, math.MinInt)
	case 4:
		x.Block.At = someOf(r.Rand, -1, 8, 1<<32, math.MaxInt, math.MinInt)
	case 5:
		x.Version = someOf[uint64](r.Rand, maxCount+1, 1<<63, math.MaxUint64)
	default:
		x.Data = strings.Repeat("x", someOf(r.Rand, 65, 66, 128, 1<<16))
	}
	return x
}

// some answers a call.
func (r *chance) some() op {
	r.count++
	x := slot.Slot{Used: true, Block: r.block(), Version: r.count, Dirty: r.Intn(10) < r.dirty, Data: fmt.Sprint(r.count)}
	if r.Intn(4) == 0 {
		x.Data += strings.Repeat(someOf(r.Rand, "\x00", "\xff"), 64-len(x.Data))
	}
	k := r.Intn(40)
	if r.Intn(20) == 0 && (k < 8 || k >= 29) {
		// That of a free Slot, which nothing is kept of.
		x.Block = someOf(r.Rand, api.Block{}, api.Block{File: x.Block.File, At: -1}, api.Block{File: api.File{Ino: -1}})
	}
	switch {
	case k < 8:
		return op{call: "Get", x: slot.Slot{Block: x.Block}}
	case k < 28:
		return op{call: "Put", x: x}
	case k < 29:
		return op{call: "Put", x: r.wrong(x)}
	case k < 32:
		return op{call: "Drop", x: x}
	case k < 33:
		return op{call: "DropFile", x: x}
	case k < 36:
		return op{call: "Retag", x: x, n: someOf(r.Rand, r.count, r.count, maxCount-r.count, maxCount+r.count)}
	case k < 38:
		return op{call: "SetNumber", n: someOf(r.Rand, r.count, maxCount-r.count, maxCount+r.count)}
	}
	return op{call: "Sync"}
}

// TestLikeModel is P15.1 to P15.5: many calls on caches of many sizes, and caches opened anew, against a model.
func TestLikeModel(t *testing.T) {
	told := map[string]int{}
	for round := range 60 {
		r := &chance{Rand: rand.New(rand.NewSource(int64(150 + round)))}
		r.files, r.dirty = 1+r.Intn(12), someOf(r.Rand, 0, 2, 5, 10)
		slots := someOf(r.Rand, 1, 2, 3, 4, 5, 7, 8, 16, 33, 63, 64)
		w := newWorld(t, 20+r.Intn(2)*r.Intn(30), slots)
		for range 150 {
			o := r.some()
			a := w.do(o)
			told[fmt.Sprintf("%s %d %t", o.call, a.err, a.ok)]++
			if r.Intn(50) == 0 {
				w.reopen()
			}
		}
	}
	for _, s := range []string{
		"Get 0 true", "Get 0 false", "Put 0 false", "Put 2 false", "Put 8 false", "Drop 0 false", "Drop 11 false",
		"DropFile 0 false", "Retag 0 false", "Retag 2 false", "SetNumber 0 false", "SetNumber 2 false", "Sync 0 false",
	} {
		if told[s] < 50 {
			t.Errorf("%q was told %d times: %v", s, told[s], told)
		}
	}
}
