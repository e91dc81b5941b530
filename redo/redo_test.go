package redo_test

import (
	"bytes"
	"fmt"
	"math"
	"slices"
	"strings"
	"testing"

	"tenancy/api"
	"tenancy/disk"
	"tenancy/head"
	"tenancy/lap"
	"tenancy/redo"
)

const (
	maxCount = 1<<40 - 1
	maxEpoch = 1<<24 - 1
)

// full answers a sector's bytes, of which no two neighbours are the same.
func full(x int) []byte {
	b := make([]byte, 128)
	for i := range b {
		b[i] = byte(x + 7*i)
	}
	return b
}

// put answers a Put.
func put(at, x int) api.Put { return api.Put{At: at, Data: full(x)} }

// puts answers Puts of homes, each with bytes of its own.
func puts(x int, homes ...int) []api.Put {
	l := []api.Put{}
	for i, at := range homes {
		l = append(l, put(at, x+i))
	}
	return l
}

// row answers the homes from 0 on.
func row(n int) []int {
	l := make([]int, n)
	for i := range l {
		l[i] = i
	}
	return l
}

// recordOf answers the record that Puts should have, spelt out bit by bit, whether they are a transaction or not.
func recordOf(l []api.Put) []byte {
	var s strings.Builder
	fmt.Fprintf(&s, "%08b", len(l))
	for _, p := range l {
		fmt.Fprintf(&s, "%012b", p.At)
		for _, x := range p.Data {
			fmt.Fprintf(&s, "%08b", x)
		}
	}
	return bytesOf(s.String())
}

// bytesOf answers spelt bits as bytes, with noughts behind.
func bytesOf(s string) []byte {
	s += strings.Repeat("0", (8-len(s)%8)%8)
	b := make([]byte, len(s)/8)
	for i, c := range s {
		if c == '1' {
			b[i/8] |= 128 >> (i % 8)
		}
	}
	return b
}

// putsOf answers the Puts that a record should have, where they are a transaction of so many homes.
func putsOf(record []byte, homes int) ([]api.Put, bool) {
	if len(record) == 0 || record[0] < 1 || record[0] > 24 || len(record) != (8+1036*int(record[0])+7)/8 {
		return nil, false
	}
	bit := func(i int) int { return int(record[i/8]>>(7-i%8)) & 1 }
	l := make([]api.Put, record[0])
	seen := map[int]bool{}
	for i := range l {
		at := 8 + 1036*i
		for k := range 12 {
			l[i].At = 2*l[i].At + bit(at+k)
		}
		l[i].Data = make([]byte, 128)
		for k := range 1024 {
			l[i].Data[k/8] = 2*l[i].Data[k/8] + byte(bit(at+12+k))
		}
		if seen[l[i].At] || l[i].At >= homes {
			return nil, false
		}
		seen[l[i].At] = true
	}
	return l, bytes.Equal(record, recordOf(l))
}

// piecesOf answers the pieces that a record should have.
func piecesOf(epoch, count uint64, record []byte) []lap.Piece {
	l := []lap.Piece{}
	for c := range slices.Chunk(record, 106) {
		l = append(l, lap.Piece{Epoch: epoch, Count: count + uint64(len(l)), Data: c})
	}
	l[0].First, l[len(l)-1].Last = true, true
	return l
}

// lay writes pieces at their places of a ring.
func lay(t testing.TB, d *disk.Disk, n int, l ...lap.Piece) {
	t.Helper()
	for _, p := range l {
		write(t, d, 2+int(p.Count%uint64(n)), sealed(t, p))
	}
}

// sealed answers a piece's sector.
func sealed(t testing.TB, p lap.Piece) []byte {
	t.Helper()
	b, e := lap.Seal(p)
	wantErr(t, "Seal", e, api.OK)
	return b
}

// newDisk answers a disk of n sectors.
func newDisk(t testing.TB, n int) *disk.Disk {
	t.Helper()
	d, e := disk.New(n)
	if d == nil || e != api.OK {
		t.Fatalf("New(%d): error %d", n, e)
	}
	return d
}

// write writes a sector.
func write(t testing.TB, d *disk.Disk, i int, b []byte) {
	t.Helper()
	wantErr(t, "the disk's Write", d.Write(i, b), api.OK)
}

// save saves a head.
func save(t testing.TB, d *disk.Disk, epoch uint64, h head.Head) {
	t.Helper()
	wantErr(t, "Save", head.Save(d, 0, epoch, h), api.OK)
}

// open answers the log that a disk has.
func open(t testing.TB, d *disk.Disk, n int) *redo.Log {
	t.Helper()
	l, e := redo.Open(d, n)
	if l == nil || e != api.OK {
		t.Fatalf("Open, a ring of %d: error %d", n, e)
	}
	return l
}

// sectors answers all of a disk's.
func sectors(t testing.TB, d *disk.Disk) []string {
	t.Helper()
	l := []string{}
	for i := range d.Size() {
		b, e := d.Read(i)
		wantErr(t, "the disk's Read", e, api.OK)
		l = append(l, string(b))
	}
	return l
}

// homes answers what all homes are.
func homes(t testing.TB, l *redo.Log) []string {
	t.Helper()
	s := []string{}
	for i := range l.Homes() {
		b, e := l.Read(i)
		wantErr(t, "Read", e, api.OK)
		s = append(s, string(b))
	}
	return s
}

// with answers homes behind a transaction.
func with(s []string, l []api.Put) []string {
	s = slices.Clone(s)
	for _, p := range l {
		s[p.At] = string(p.Data)
	}
	return s
}

// wantErr fails the test unless an error is the one that is wanted.
func wantErr(t testing.TB, name string, got, want api.Errno) {
	t.Helper()
	if got != want {
		t.Fatalf("%s: error %d, want %d", name, got, want)
	}
}

// wantFree fails the test unless so many sectors of the ring are free.
func wantFree(t testing.TB, name string, l *redo.Log, want int) {
	t.Helper()
	if n := l.Free(); n != want {
		t.Fatalf("%s: %d free, want %d", name, n, want)
	}
}

// wantHomes fails the test unless homes are these.
func wantHomes(t testing.TB, name string, l *redo.Log, want []string) {
	t.Helper()
	if s := homes(t, l); !slices.Equal(s, want) {
		t.Fatalf("%s: homes %q, want %q", name, fronts(s), fronts(want))
	}
}

// wantSectors fails the test unless a disk's sectors are these.
func wantSectors(t testing.TB, name string, d *disk.Disk, want []string) {
	t.Helper()
	if s := sectors(t, d); !slices.Equal(s, want) {
		t.Fatalf("%s: sectors %q, want %q", name, fronts(s), fronts(want))
	}
}

// wantWaits fails the test unless these sectors wait, in this order.
func wantWaits(t testing.TB, name string, d *disk.Disk, want ...int) {
	t.Helper()
	if l := d.Waits(); !slices.Equal(l, want) {
		t.Fatalf("%s: %v wait, want %v", name, l, want)
	}
}

// fronts answers the first bytes of sectors.
func fronts(l []string) []string {
	s := []string{}
	for _, x := range l {
		s = append(s, x[:12])
	}
	return s
}

// said is what a ring says.
type said struct {
	homes      []string
	tail, next uint64
}

// says answers what a disk's ring should say, asked condition by condition.
func says(t testing.TB, d *disk.Disk, n int) said {
	t.Helper()
	h, ok, e := head.Load(d, 0)
	wantErr(t, "Load", e, api.OK)
	if !ok {
		h = head.Head{Tail: 0, Floor: 1}
	}
	s := said{homes: sectors(t, d)[2+n:], tail: h.Tail, next: h.Tail}
	for floor := h.Floor; ; {
		l, epoch, pieces := nextOf(d, n, s, floor)
		if pieces == 0 {
			return s
		}
		s.homes, s.next, floor = with(s.homes, l), s.next+uint64(pieces), epoch
	}
}

// nextOf answers the transaction that a ring should say next, its epoch and how many pieces it has; 0, if there is none.
func nextOf(d *disk.Disk, n int, s said, floor uint64) ([]api.Put, uint64, int) {
	record, epoch := []byte{}, uint64(0)
	for k := 0; ; k++ {
		count := s.next + uint64(k)
		b, _ := d.Read(2 + int(count%uint64(n)))
		p, e := lap.Unseal(b)
		if k == 0 {
			epoch = p.Epoch
		}
		switch {
		case e != api.OK, p.Count != count, p.First != (k == 0), p.Epoch != epoch, epoch < floor:
			return nil, 0, 0
		case count-s.tail >= uint64(n), !p.Last && len(p.Data) != 106:
			return nil, 0, 0
		}
		record = append(record, p.Data...)
		if p.Last {
			l, ok := putsOf(record, len(s.homes))
			if !ok || len(p.Data) == 0 {
				return nil, 0, 0
			}
			return l, epoch, k + 1
		}
	}
}

// wantSays fails the test unless a log is as its disk's ring says.
func wantSays(t testing.TB, name string, d *disk.Disk, n int) said {
	t.Helper()
	s, before, waits := says(t, d, n), sectors(t, d), d.Waits()
	l := open(t, d, n)
	wantHomes(t, name, l, s.homes)
	wantFree(t, name, l, n-int(s.next-s.tail))
	wantSectors(t, name, d, before)
	wantWaits(t, name, d, waits...)
	return s
}

// wrongPlaces answers numbers that no home of n has.
func wrongPlaces(n int) []int {
	return []int{-1, -2, -n, n, n + 1, n + 2, 4095, 4096, 4097, 1 << 32, math.MinInt, math.MaxInt}
}
