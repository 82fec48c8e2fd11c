package conv

import (
	"slices"

	"ironbark/api"
	"ironbark/bits"
	"ironbark/digit"
)

// refusal is an error on its way out to the call that it ends.
type refusal api.Errno

// refuse leaves the work of the call with an error.
func refuse(e api.Errno) { panic(refusal(e)) }

// answered is what the work of a call returns, or zero and the error with which it was left.
func answered[T any](work func() T) (answer T, e api.Errno) {
	defer func() {
		switch left := recover().(type) {
		case nil:
		case refusal:
			e = api.Errno(left)
		default:
			e = api.ErrInvalid
		}
	}()
	return work(), api.OK
}

// demandOK refuses what a lower layer refused.
func demandOK(e api.Errno) {
	if e != api.OK {
		refuse(e)
	}
}

// demandRight refuses a value that is not valid. Layer digit takes any bytes as characters, layer bits does not.
func demandRight(v api.Value) {
	if !digit.Right(v) || v.Kind == api.TChar && !bits.Valid(v) {
		refuse(api.ErrInvalid)
	}
}

// demandValid refuses types that are not valid.
func demandValid(l ...api.Type) {
	for _, t := range l {
		if !digit.Valid(t) {
			refuse(api.ErrType)
		}
	}
}

// demandOf refuses a value that is not of a type.
func demandOf(t api.Type, v api.Value) {
	if !digit.Has(t, v) {
		refuse(api.ErrType)
	}
}

// demandKnown refuses valid types that are neither of numbers nor of strings.
func demandKnown(l ...api.Type) {
	for _, t := range l {
		if t.Kind >= len(conversions()) {
			refuse(api.ErrKind)
		}
	}
}

// demandGroup refuses a known type that is in none of some groups.
func demandGroup(t api.Type, some ...group) {
	if !slices.Contains(some, groupOf(t)) {
		refuse(api.ErrKind)
	}
}

// demandShort refuses a text that is longer than a string.
func demandShort(text string) {
	if len(text) > api.MaxLen {
		refuse(api.ErrLong)
	}
}
