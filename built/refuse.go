package built

import (
	"ironbark/api"
	"ironbark/bits"
	"ironbark/digit"
	"ironbark/rule"
)

// refusal is an error on its way out to the call that it ends.
type refusal api.Errno

// refuse leaves the work of the call with an error.
func refuse(e api.Errno) { panic(refusal(e)) }

// answered is what the work of a call returns, or zero and the error with which it was left.
func answered[T any](work func() T) (answer T, e api.Errno) {
	defer func() {
		switch left := recover().(type) {
		case nil:
		case refusal:
			e = api.Errno(left)
		default:
			e = api.ErrInvalid
		}
	}()
	return work(), api.OK
}

// demand refuses what is not as it should be.
func demand(is bool, e api.Errno) {
	if !is {
		refuse(e)
	}
}

// demandOK refuses what a lower layer refused.
func demandOK(e api.Errno) { demand(e == api.OK, e) }

// told is what a lower layer tells, unless that refused it.
func told[T any](answer T, e api.Errno) T {
	demandOK(e)
	return answer
}

// demandValid refuses types that are not valid.
func demandValid(l ...api.Type) {
	for _, t := range l {
		demand(digit.Valid(t), api.ErrType)
	}
}

// demandOf refuses a value that is not of a type. Layer digit takes any bytes as characters, layer bits does not.
func demandOf(v api.Value, t api.Type) {
	demand(digit.Has(t, v) && (t.Kind != api.TChar || bits.Valid(v)), api.ErrInvalid)
}

// demandArguments refuses values that are not of their types.
func demandArguments(args []api.Value, types []api.Type) {
	for at, v := range args {
		demandOf(v, types[at])
	}
}

// demandKnown refuses known values that are not of their types.
func demandKnown(known []api.Value, types []api.Type) {
	for at, v := range known {
		if isKnown(v) {
			demandOf(v, types[at])
		}
	}
}

// demandPlain refuses valid types that are neither of numbers nor of strings.
func demandPlain(types []api.Type) {
	for _, t := range types {
		_, e := rule.Number(t)
		demandOK(e)
	}
}
