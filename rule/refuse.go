package rule

import (
	"ironbark/api"
	"ironbark/digit"
)

// refusal is an error on its way out to the call that it ends.
type refusal api.Errno

// refuse leaves the work of the call with an error.
func refuse(e api.Errno) { panic(refusal(e)) }

// answered is what the work of a call returns, or zero and the error with which it was left.
func answered[T any](work func() T) (answer T, e api.Errno) {
	defer func() {
		switch left := recover().(type) {
		case nil:
		case refusal:
			e = api.Errno(left)
		default:
			e = api.ErrInvalid
		}
	}()
	return work(), api.OK
}

// demandValid refuses types that are not valid.
func demandValid(l ...api.Type) {
	for _, t := range l {
		if !digit.Valid(t) {
			refuse(api.ErrType)
		}
	}
}

// demandNumbers refuses types that are not of numbers. A type that is not valid comes first, wherever it stands.
func demandNumbers(l ...api.Type) {
	demandValid(l...)
	for _, t := range l {
		if !isNumber(t) {
			refuse(api.ErrKind)
		}
	}
}

// demandFixed refuses a type that is not of fixed numbers.
func demandFixed(t api.Type) {
	demandNumbers(t)
	if t.Kind == api.TFloat {
		refuse(api.ErrKind)
	}
}
