package redo

import (
	"slices"

	"tenancy/api"
	"tenancy/bits"
	"tenancy/lap"
)

// The bits of a record's parts.
const (
	putsBits = 8
	homeBits = 12
	byteBits = 8
)

// Need answers how many sectors a transaction takes.
func Need(puts []api.Put) int {
	// Without a disk, a home is what a record can name.
	if !isTransaction(puts, 1<<homeBits) {
		return 0
	}
	pieces, _ := cut(0, 0, puts)
	return len(pieces)
}

// isTransaction tells whether puts are one, where there are so many homes.
func isTransaction(puts []api.Put, homes int) bool {
	if len(puts) < 1 || len(puts) > api.MaxPuts {
		return false
	}
	for i, p := range puts {
		if p.At < 0 || p.At >= homes || len(p.Data) != api.Sector {
			return false
		}
		if slices.ContainsFunc(puts[:i], func(q api.Put) bool { return q.At == p.At }) {
			return false
		}
	}
	return true
}

// cut answers the pieces of a transaction's record.
func cut(epoch, count uint64, puts []api.Put) ([]lap.Piece, api.Errno) {
	record, e := encode(puts)
	if e != api.OK {
		return nil, e
	}
	return lap.Cut(epoch, count, record)
}

// encode answers a transaction's record.
func encode(puts []api.Put) ([]byte, api.Errno) {
	w := bits.New().Put(uint64(len(puts)), putsBits)
	for _, p := range puts {
		w.Put(uint64(p.At), homeBits)
		for _, x := range p.Data {
			w.Put(uint64(x), byteBits)
		}
	}
	return w.Done()
}

// decode answers the puts of a record, and whether it has just these; they need not be a transaction.
func decode(record []byte) ([]api.Put, bool) {
	r := bits.Open(record)
	puts := make([]api.Put, r.Get(putsBits))
	for i := range puts {
		puts[i] = api.Put{At: int(r.Get(homeBits)), Data: make([]byte, api.Sector)}
		for k := range puts[i].Data {
			puts[i].Data[k] = byte(r.Get(byteBits))
		}
	}
	return puts, r.End() == api.OK
}
