package bits

import "ironbark/api"

// refusal is an error on its way out to the call that it ends.
type refusal api.Errno

// refuse leaves the work of the call with an error.
func refuse(e api.Errno) { panic(refusal(e)) }

// answered is what the work of a call returns, or zero and the error with which it was left.
func answered[T any](work func() T) (answer T, e api.Errno) {
	defer func() {
		switch left := recover().(type) {
		case nil:
		case refusal:
			e = api.Errno(left)
		default:
			e = api.ErrInvalid
		}
	}()
	return work(), api.OK
}

// demandStrings refuses values that are no strings.
func demandStrings(values ...api.Value) {
	for _, v := range values {
		if !Valid(v) {
			refuse(api.ErrInvalid)
		}
	}
}

// demandKind refuses values that are no strings, or not of a kind. A value that is no string comes first, wherever it stands.
func demandKind(k kind, values ...api.Value) {
	demandStrings(values...)
	for _, v := range values {
		if v.Kind != k.number() {
			refuse(api.ErrKind)
		}
	}
}

// demandAlike refuses values that are no strings, or not all of one kind.
func demandAlike(s api.Value, others ...api.Value) {
	demandStrings(s)
	demandKind(kindOf(s.Kind), others...)
}

// demandFitting refuses a value and a type that are no string and no string's, or not of one kind.
func demandFitting(v api.Value, t api.Type) {
	if !ValidType(t) {
		refuse(api.ErrInvalid)
	}
	demandKind(kindOf(t.Kind), v)
}

// demandWithin refuses numbers that do not lie from low to high.
func demandWithin(low, high int, numbers ...int) {
	for _, n := range numbers {
		if n < low || n > high {
			refuse(api.ErrRange)
		}
	}
}

// demandCounts refuses numbers too far from 0 on either side.
func demandCounts(numbers ...int) { demandWithin(-api.MaxCount, api.MaxCount, numbers...) }

// demandRoom refuses what is too long for a string: so many times a length. It divides, because a product might overflow.
func demandRoom(length, times int) {
	if length > 0 && times > api.MaxLen/length {
		refuse(api.ErrLong)
	}
}
