package picture

import (
	"ironbark/api"
	"ironbark/digit"
)

// maxText is how long a text may be.
const maxText = 200

// refusal is an error on its way out to the call that it ends, with its place in the text.
type refusal struct {
	errno api.Errno
	at    int
}

// refuse leaves the work of the call with an error that has no place.
func refuse(e api.Errno) { panic(refusal{errno: e}) }

// refuseAt leaves the work of the call because of what stands at a place.
func refuseAt(at int) { panic(refusal{api.ErrSyntax, at}) }

// guarded does the work and returns the error with which it was left, and its place. The work assigns results only when nothing can refuse any more, so that they stay zero beside an error.
func guarded(work func()) (at int, e api.Errno) {
	defer func() {
		switch left := recover().(type) {
		case nil:
		case refusal:
			at, e = left.at, left.errno
		default:
			e = api.ErrInvalid
		}
	}()
	work()
	return 0, api.OK
}

// demandOK refuses what a lower layer refused.
func demandOK(e api.Errno) {
	if e != api.OK {
		refuse(e)
	}
}

// demandMade refuses a picture that Parse did not make.
func demandMade(p Picture) {
	if !p.isMade() {
		refuse(api.ErrInvalid)
	}
}

// demandNumber refuses a value that is not a valid number.
func demandNumber(v api.Value) {
	if _, e := digit.Sign(v); e != api.OK {
		refuse(api.ErrInvalid)
	}
}

func demandShort(text string) {
	if len(text) > maxText {
		refuse(api.ErrLong)
	}
}

func demandNumeric(p Picture) {
	if !p.Numeric() {
		refuse(api.ErrKind)
	}
}

func demandCharacters(p Picture) {
	if p.Numeric() {
		refuse(api.ErrKind)
	}
}
