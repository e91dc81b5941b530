// Package field tells which fields messages have: layers that ask whether a message may be, and lay one as bytes, must agree on that.
package field

import "tenancy/api"

// Set is some of a message's fields, a bit each.
type Set int

// Those that not all messages have. (All have a Type, a Client and a Session.)
const (
	Seq Set = 1 << iota
	Boot
	Kind
	Err
	File
	Dir
	Name
	Other
	Mode
	At
	Data
	Version
	Entries
)

// Has tells whether a field is among these.
func (s Set) Has(f Set) bool { return s&f != 0 }

// Of answers the fields that a message is to have by its Type, Kind and Err, and whether its Type is one.
func Of(m api.Message) (Set, bool) {
	switch m.Type {
	case api.MRequest:
		if m.Kind == api.RHello {
			// Who says hello knows of no boot yet.
			return Seq | Kind, true
		}
		return Seq | Boot | Kind | asked(m.Kind), true
	case api.MReply:
		if m.Err != api.OK {
			return Seq | Boot | Kind | Err, true
		}
		return Seq | Boot | Kind | told(m.Kind), true
	case api.MRecall:
		return Boot | File, true
	}
	return 0, false
}

// asked answers what a request of a kind has besides.
func asked(kind int) Set {
	switch kind {
	case api.RLookup, api.RRemove:
		return Dir | Name
	case api.RCreate:
		return Dir | Name | Mode
	case api.RRename:
		return Dir | Name | File | Other
	case api.RList:
		return Dir
	case api.RAcquire, api.RReclaim:
		return File | Mode
	case api.RFetch:
		return File | At
	case api.RWriteBack:
		return File | At | Data
	case api.RTruncate, api.RReturn:
		return File
	}
	return 0
}

// told answers what a reply to a request of a kind has besides, where it went well.
func told(kind int) Set {
	switch kind {
	case api.RLookup:
		return File | Mode
	case api.RCreate:
		return File
	case api.RList:
		return Entries
	case api.RFetch:
		return Data | Version
	case api.RAcquire, api.RReclaim, api.RWriteBack, api.RTruncate:
		return Version
	}
	return 0
}
