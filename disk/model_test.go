package disk_test

import (
	"bytes"
	"math/rand"
	"slices"
	"testing"

	"tenancy/api"
	"tenancy/disk"
)

// event is a write or a flush that was OK, since the model was made.
type event struct {
	flush bool
	at    int
	data  string
}

// model is a disk that keeps all that happened, and works out the rest each time it is asked.
type model struct {
	size   int
	base   map[int]string // what lasted behind the last crash
	events []event
	steps  int // steps that the power is on for still; -1: any
	dead   bool
}

func newModel(n int) *model { return &model{size: n, base: map[int]string{}, steps: -1} }

// read answers what was written last.
func (m *model) read(i int) string {
	for _, e := range slices.Backward(m.events) {
		if !e.flush && e.at == i {
			return e.data
		}
	}
	return m.lasted(i)
}

// lasted answers what lasted behind the last crash.
func (m *model) lasted(i int) string {
	if s, ok := m.base[i]; ok {
		return s
	}
	return string(make([]byte, api.Sector))
}

// waiting answers the writes behind the last flush.
func (m *model) waiting() []event {
	at := 0
	for i, e := range m.events {
		if e.flush {
			at = i + 1
		}
	}
	return m.events[at:]
}

// step tells whether one more step may be.
func (m *model) step() bool {
	m.dead = m.dead || m.steps == 0
	if !m.dead && m.steps > 0 {
		m.steps--
	}
	return !m.dead
}

// put is a write or a flush.
func (m *model) put(e event) api.Errno {
	if !e.flush && (e.at < 0 || e.at >= m.size || len(e.data) != api.Sector) {
		return api.ErrArg
	}
	if !m.step() {
		return api.ErrDead
	}
	m.events = append(m.events, e)
	return api.OK
}

// fuse sets how many steps may be.
func (m *model) fuse(n int) api.Errno {
	switch {
	case n < 0:
		return api.ErrArg
	case m.dead:
		return api.ErrDead
	}
	m.steps = n
	return api.OK
}

// crash lays down what lasts.
func (m *model) crash(keep []int, torn int) {
	waits := m.waiting()
	for _, e := range m.events[:len(m.events)-len(waits)] {
		if !e.flush {
			m.base[e.at] = e.data
		}
	}
	for i, e := range waits {
		kept := i < len(keep) && keep[i] != 0
		switch {
		case i == len(waits)-1 && torn >= 1 && torn <= 127:
			m.base[e.at] = e.data[:torn] + m.lasted(e.at)[torn:]
		case kept:
			m.base[e.at] = e.data
		}
	}
	m.events, m.dead, m.steps = nil, false, -1
}

// wantSame fails the test unless disk and model answer alike.
func wantSame(t *testing.T, d *disk.Disk, m *model) {
	t.Helper()
	places := []int{}
	for _, e := range m.waiting() {
		places = append(places, e.at)
	}
	if l := d.Waits(); !slices.Equal(l, places) || d.Live() == m.dead || d.Size() != m.size {
		t.Fatalf("waits %v, live %t, size %d, want %v, %t, %d", l, d.Live(), d.Size(), places, !m.dead, m.size)
	}
	for i := range m.size {
		if b, e := d.Read(i); e != api.OK || string(b) != m.read(i) {
			t.Fatalf("sector %d is %x, error %d, want %x", i, b, e, m.read(i))
		}
	}
}

// play does what bytes say to a disk and to its model.
func play(t *testing.T, script []byte) {
	t.Helper()
	next := func() int {
		if len(script) == 0 {
			return 0
		}
		x := script[0]
		script = script[1:]
		return int(x)
	}
	n := next()%5 + 1
	d, m := newDisk(t, n), newModel(n)
	for len(script) > 0 {
		switch next() % 8 {
		case 0, 1, 2, 3:
			at, c, size := next()%(n+1), next(), api.Sector
			if c == 0 {
				size = next()
			}
			data := append(bytes.Repeat([]byte{byte(c)}, size/2), bytes.Repeat([]byte{byte(c + 1)}, size-size/2)...)
			wantErr(t, "Write", d.Write(at, data), m.put(event{at: at, data: string(data)}))
		case 4:
			wantErr(t, "Flush", d.Flush(), m.put(event{flush: true}))
		case 5:
			k := next()%8 - 1
			wantErr(t, "Fuse", d.Fuse(k), m.fuse(k))
		default:
			keep, torn := make([]int, next()%6), next()-64
			for i := range keep {
				keep[i] = next()%3 - 1
			}
			d.Crash(keep, torn)
			m.crash(keep, torn)
		}
		wantSame(t, d, m)
	}
}

// TestAgainstModel is P3.1 to P3.4: many steps of all kinds answer as the model does.
func TestAgainstModel(t *testing.T) {
	for seed := range int64(600) {
		b := make([]byte, 400)
		rand.New(rand.NewSource(seed)).Read(b)
		play(t, b)
	}
}

// FuzzDisk is R1 and P3.1 to P3.4: whatever the steps, the disk answers as the model does.
func FuzzDisk(f *testing.F) {
	f.Add([]byte{1, 0, 0, 9, 0, 1, 8, 6, 2, 64, 0, 2})
	f.Add([]byte{2, 5, 2, 0, 1, 7, 4, 4, 6, 0, 67})
	f.Fuzz(play)
}

// TestWhatMayBe is P3.5: behind a crash a sector is as it lasted, or as one of its writes since, or, the last one, a front of its write and the end of one of these.
func TestWhatMayBe(t *testing.T) {
	for seed := range int64(1000) {
		r := rand.New(rand.NewSource(seed))
		d := newDisk(t, 3)
		may := [3][]string{}
		last, torn := 0, r.Intn(160)-16
		for i := range 3 {
			d.Write(i, full(byte(100+i)))
			may[i] = []string{string(full(byte(100 + i)))}
		}
		d.Flush()
		keep := make([]int, r.Intn(8))
		for i := range r.Intn(8) {
			last = r.Intn(3)
			b := full(byte(i + 1))
			d.Write(last, b)
			may[last] = append(may[last], string(b))
			if i < len(keep) {
				keep[i] = r.Intn(2)
			}
		}
		d.Crash(keep, torn)
		for i := range 3 {
			b, _ := d.Read(i)
			if !slices.Contains(may[i], string(b)) && (i != last || !isTorn(string(b), may[i])) {
				t.Fatalf("seed %d: sector %d is %x", seed, i, b)
			}
		}
	}
}

// isTorn tells whether s is a front of the last of these, and the end of another one.
func isTorn(s string, may []string) bool {
	whole := may[len(may)-1]
	for _, old := range may[:len(may)-1] {
		for n := range len(s) {
			if s == whole[:n]+old[n:] {
				return true
			}
		}
	}
	return false
}

// TestFlushedIsThere is P3.5: what was flushed is there behind any crash, unless it was written since.
func TestFlushedIsThere(t *testing.T) {
	for seed := range int64(500) {
		r := rand.New(rand.NewSource(seed))
		d := newDisk(t, 4)
		for i := range 4 {
			d.Write(i, full(byte(i+1)))
		}
		d.Flush()
		d.Fuse(r.Intn(6))
		written := [4]bool{}
		for range r.Intn(8) {
			i := r.Intn(4)
			if d.Write(i, full(byte(50+r.Intn(50)))) == api.OK {
				written[i] = true
			}
		}
		d.Crash([]int{r.Intn(2), r.Intn(2), r.Intn(2), 1, 1, 1}, r.Intn(130))
		for i := range 4 {
			if !written[i] {
				wantRead(t, "flushed", d, i, full(byte(i+1)))
			}
		}
	}
}
