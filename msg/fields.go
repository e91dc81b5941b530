package msg

import "tenancy/api"

// fields are some of a message's fields, a bit each.
type fields int

// Those that must be zero in some messages. (Type, Client and Session are in all.)
const (
	hasSeq fields = 1 << iota
	hasBoot
	hasKind
	hasErr
	hasFile
	hasDir
	hasName
	hasOther
	hasMode
	hasAt
	hasData
	hasVersion
	hasEntries
)

// fieldsOf answers the fields that a message is to have, and whether its Type is one.
func fieldsOf(m api.Message) (fields, bool) {
	switch m.Type {
	case api.MRequest:
		if m.Kind == api.RHello {
			// Who says hello knows of no boot yet.
			return hasSeq | hasKind, true
		}
		return hasSeq | hasBoot | hasKind | asked(m.Kind), true
	case api.MReply:
		if m.Err != api.OK {
			return hasSeq | hasBoot | hasKind | hasErr, true
		}
		return hasSeq | hasBoot | hasKind | told(m.Kind), true
	case api.MRecall:
		return hasBoot | hasFile, true
	}
	return 0, false
}

// asked answers what a request of a kind has besides.
func asked(kind int) fields {
	switch kind {
	case api.RLookup, api.RRemove:
		return hasDir | hasName
	case api.RCreate:
		return hasDir | hasName | hasMode
	case api.RRename:
		return hasDir | hasName | hasFile | hasOther
	case api.RList:
		return hasDir
	case api.RAcquire, api.RReclaim:
		return hasFile | hasMode
	case api.RFetch:
		return hasFile | hasAt
	case api.RWriteBack:
		return hasFile | hasAt | hasData
	case api.RTruncate, api.RReturn:
		return hasFile
	}
	return 0
}

// told answers what a reply to a request of a kind has besides, where it went well.
func told(kind int) fields {
	switch kind {
	case api.RLookup:
		return hasFile | hasMode
	case api.RCreate:
		return hasFile
	case api.RList:
		return hasEntries
	case api.RFetch:
		return hasData | hasVersion
	case api.RAcquire, api.RReclaim, api.RWriteBack, api.RTruncate:
		return hasVersion
	}
	return 0
}
