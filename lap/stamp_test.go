package lap_test

import (
	"math"
	"math/rand"
	"testing"

	"tenancy/api"
	"tenancy/lap"
)

const (
	maxEpoch = 16777215      // 2^24 - 1
	maxCount = 1099511627775 // 2^40 - 1
	counts   = maxCount + 1
)

// TestLimits is the chapter's numbers.
func TestLimits(t *testing.T) {
	if lap.Room != 106 || lap.MaxEpoch != maxEpoch || lap.MaxRecord != 8192 {
		t.Error(lap.Room, lap.MaxEpoch, lap.MaxRecord)
	}
}

// TestStamp is P4.1: the epoch times 2^40, and the count; each limit is itself allowed.
func TestStamp(t *testing.T) {
	tests := []struct{ epoch, count, want uint64 }{
		{0, 0, 0},
		{0, 1, 1},
		{1, 0, 1 << 40},
		{1, 5, 1<<40 + 5}, // the chapter's example
		{0, maxCount, 1<<40 - 1},
		{1, maxCount, 1<<41 - 1},
		{maxEpoch, 0, 0xffffff0000000000},
		{maxEpoch, maxCount, math.MaxUint64},
		{0x123456, 0x789abcdef0, 0x123456789abcdef0},
	}
	for _, c := range tests {
		if s, e := lap.Stamp(c.epoch, c.count); s != c.want || e != api.OK {
			t.Errorf("Stamp(%d, %d): %#x, error %d, want %#x", c.epoch, c.count, s, e, c.want)
		}
		if e := lap.Epoch(c.want); e != c.epoch {
			t.Errorf("Epoch(%#x): %d, want %d", c.want, e, c.epoch)
		}
		if n := lap.Count(c.want); n != c.count {
			t.Errorf("Count(%#x): %d, want %d", c.want, n, c.count)
		}
	}
}

// TestStampWrong is P4.1: one that is too great, or both.
func TestStampWrong(t *testing.T) {
	for _, c := range wrongStamps() {
		if s, e := lap.Stamp(c[0], c[1]); s != 0 || e != api.ErrArg {
			t.Errorf("Stamp(%d, %d): %#x, error %d", c[0], c[1], s, e)
		}
	}
}

// wrongStamps answers epochs and counts that are no stamps.
func wrongStamps() [][2]uint64 {
	return [][2]uint64{
		{maxEpoch + 1, 0},
		{0, maxCount + 1},
		{maxEpoch + 1, maxCount + 1},
		{maxEpoch + 1, maxCount},
		{maxEpoch, maxCount + 1},
		{1 << 32, 1},
		{1, 1 << 63},
		{math.MaxUint64, 1},
		{1, math.MaxUint64},
		{math.MaxUint64, math.MaxUint64},
	}
}

// TestStampBits is P4.1: all 64 bits are a stamp's, each bit the epoch's or the count's.
func TestStampBits(t *testing.T) {
	r := rand.New(rand.NewSource(1))
	l := []uint64{0, math.MaxUint64}
	for i := range 64 {
		l = append(l, 1<<i, math.MaxUint64^1<<i)
	}
	for range 5000 {
		l = append(l, r.Uint64())
	}
	for _, s := range l {
		epoch, count := lap.Epoch(s), lap.Count(s)
		if epoch != s/counts || count != s%counts {
			t.Errorf("%#x: epoch %d, count %d", s, epoch, count)
		}
		if again, e := lap.Stamp(epoch, count); again != s || e != api.OK {
			t.Errorf("%#x: again %#x, error %d", s, again, e)
		}
	}
}
