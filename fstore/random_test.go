package fstore_test

import (
	"fmt"
	"math/rand"
	"testing"

	"tenancy/api"
)

// TestModel is P11.1 to P11.6: many calls on stores, and stores opened anew, against a model.
func TestModel(t *testing.T) {
	r := rand.New(rand.NewSource(11))
	seen := map[string]int{}
	for round := range 60 {
		homes := []int{46, 50, 58, 80, 130, 300}[round%6]
		w := newWorld(t, 20+r.Intn(2)*r.Intn(40), homes)
		small := 10
		for i := range 400 {
			if i%100 == 0 {
				small = []int{2, 10, 20, 40}[r.Intn(4)]
			}
			o := w.m.some(r, small)
			seen[fmt.Sprintf("%s %d", o.call, w.do(o).err)]++
			if i%50 == 0 {
				w.wantAll()
			}
			if r.Intn(40) == 0 {
				w.d.Crash(nil, 0)
				w.reopen()
			}
		}
		w.wantAll()
	}
	for call, l := range map[string][]api.Errno{
		"Lookup":    {api.OK, api.ErrName, api.ErrGone, api.ErrKind, api.ErrNone},
		"List":      {api.OK, api.ErrGone, api.ErrKind},
		"Attr":      {api.OK, api.ErrGone},
		"Read":      {api.OK, api.ErrArg, api.ErrGone, api.ErrKind},
		"Create":    {api.OK, api.ErrArg, api.ErrGone, api.ErrKind, api.ErrThere, api.ErrFull},
		"Remove":    {api.OK, api.ErrName, api.ErrGone, api.ErrKind, api.ErrNone, api.ErrNotEmpty},
		"Rename":    {api.OK, api.ErrName, api.ErrGone, api.ErrKind, api.ErrNone, api.ErrArg, api.ErrNotEmpty},
		"Write":     {api.OK, api.ErrArg, api.ErrBig, api.ErrGone, api.ErrKind, api.ErrFull},
		"Truncate":  {api.OK, api.ErrGone, api.ErrKind},
		"Record":    {api.OK},
		"SetRecord": {api.OK, api.ErrArg},
	} {
		for _, e := range l {
			if seen[fmt.Sprintf("%s %d", call, e)] < 5 {
				t.Errorf("%s told %d too seldom: %v", call, e, seen)
			}
		}
	}
}
