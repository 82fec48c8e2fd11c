package pair

import (
	"ironbark/api"
	"ironbark/digit"
)

// refusal is an error on its way out to the call that it ends.
type refusal api.Errno

// refuse leaves the work of the call with an error.
func refuse(e api.Errno) { panic(refusal(e)) }

// guarded does the work and returns the error with which it was left. The work assigns results only when nothing can refuse any more, so that they stay zero beside an error.
func guarded(work func()) (e api.Errno) {
	defer func() {
		switch left := recover().(type) {
		case nil:
		case refusal:
			e = api.Errno(left)
		default:
			e = api.ErrInvalid
		}
	}()
	work()
	return e
}

// demandOK refuses what a lower layer refused.
func demandOK(e api.Errno) {
	if e != api.OK {
		refuse(e)
	}
}

// demandRight refuses pairs with a part that is not valid.
func demandRight(pairs ...api.Pair) {
	for _, x := range pairs {
		re, im := eachPart(x, digit.Right)
		if !re || !im {
			refuse(api.ErrInvalid)
		}
	}
}

// demandOperands refuses pairs that can't be reckoned with. All are asked for one error before the next one.
func demandOperands(all ...operand) {
	for _, x := range all {
		demandRight(x.Pair)
	}
	for _, x := range all {
		if !isOf(x.of, x.Pair) {
			refuse(api.ErrType)
		}
	}
	for _, x := range all {
		if !isOfNumbers(x.of) {
			refuse(api.ErrKind)
		}
	}
}

// demandPower refuses an exponent that no power has.
func demandPower(n int) {
	if n < 0 || n > mostPower {
		refuse(api.ErrRange)
	}
}
