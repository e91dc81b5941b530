package field_test

import (
	"math"
	"testing"

	"tenancy/api"
	"tenancy/field"
)

// all are the fields, each alone.
var all = []field.Set{
	field.Seq, field.Boot, field.Kind, field.Err, field.File, field.Dir, field.Name,
	field.Other, field.Mode, field.At, field.Data, field.Version, field.Entries,
}

// wantOf fails the test unless a message is to have these fields, and no others.
func wantOf(t *testing.T, m api.Message, want ...field.Set) {
	t.Helper()
	has, ok := field.Of(m)
	if !ok {
		t.Errorf("Type %d, Kind %d, Err %d: no Type", m.Type, m.Kind, m.Err)
	}
	for i, f := range all {
		is := false
		for _, w := range want {
			is = is || w == f
		}
		if has.Has(f) != is {
			t.Errorf("Type %d, Kind %d, Err %d: field %d: %v, want %v", m.Type, m.Kind, m.Err, i, !is, is)
		}
	}
}

// TestOf is the table of P16.1, row by row.
func TestOf(t *testing.T) {
	const (
		file, dir, name, other = field.File, field.Dir, field.Name, field.Other
		mode, at, data         = field.Mode, field.At, field.Data
		version, entries       = field.Version, field.Entries
	)
	for i, c := range []struct{ asked, told []field.Set }{
		{nil, nil},
		{nil, nil},
		{[]field.Set{dir, name}, []field.Set{file, mode}},
		{[]field.Set{dir, name, mode}, []field.Set{file}},
		{[]field.Set{dir, name}, nil},
		{[]field.Set{dir, name, file, other}, nil},
		{[]field.Set{dir}, []field.Set{entries}},
		{[]field.Set{file, mode}, []field.Set{version}},
		{[]field.Set{file, at}, []field.Set{data, version}},
		{[]field.Set{file, at, data}, []field.Set{version}},
		{[]field.Set{file}, []field.Set{version}},
		{[]field.Set{file}, nil},
		{[]field.Set{file, mode}, []field.Set{version}},
		{nil, nil},
	} {
		kind := i + 1
		if kind == api.RHello {
			wantOf(t, api.Message{Type: api.MRequest, Kind: kind}, field.Seq, field.Kind)
		} else {
			wantOf(t, api.Message{Type: api.MRequest, Kind: kind}, append(c.asked, field.Seq, field.Boot, field.Kind)...)
		}
		wantOf(t, api.Message{Type: api.MReply, Kind: kind}, append(c.told, field.Seq, field.Boot, field.Kind)...)
		for e := api.ErrNil; e <= api.ErrLimit; e++ {
			wantOf(t, api.Message{Type: api.MReply, Kind: kind, Err: e}, field.Seq, field.Boot, field.Kind, field.Err)
		}
	}
	wantOf(t, api.Message{Type: api.MRecall}, field.Boot, field.File)
}

// TestNoKind: what hangs on a kind is not there, where there is none; that it is none the Kind itself shows.
func TestNoKind(t *testing.T) {
	for _, kind := range []int{math.MinInt, -1, 0, 15, 16, 1<<32 + 3, math.MaxInt} {
		wantOf(t, api.Message{Type: api.MRequest, Kind: kind}, field.Seq, field.Boot, field.Kind)
		wantOf(t, api.Message{Type: api.MReply, Kind: kind}, field.Seq, field.Boot, field.Kind)
	}
}

// TestNoType: what has no Type has no fields.
func TestNoType(t *testing.T) {
	for _, typ := range []int{math.MinInt, -1, 0, 4, 1<<32 + 1, math.MaxInt} {
		for kind := range 16 {
			if has, ok := field.Of(api.Message{Type: typ, Kind: kind}); has != 0 || ok {
				t.Errorf("Type %d, Kind %d: %b, %v", typ, kind, has, ok)
			}
		}
	}
}
