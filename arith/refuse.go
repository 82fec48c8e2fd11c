package arith

import (
	"ironbark/api"
	"ironbark/digit"
	"ironbark/rule"
)

// refusal is an error on its way out to the call that it ends.
type refusal api.Errno

// refuse leaves the work of the call with an error.
func refuse(e api.Errno) { panic(refusal(e)) }

// guarded does the work and returns the error with which it was left. The work assigns results only when nothing can refuse any more, so that they stay zero beside an error.
func guarded(work func()) (e api.Errno) {
	defer func() {
		switch left := recover().(type) {
		case nil:
		case refusal:
			e = api.Errno(left)
		default:
			e = api.ErrInvalid
		}
	}()
	work()
	return e
}

// demandOK refuses what a lower layer refused.
func demandOK(e api.Errno) {
	if e != api.OK {
		refuse(e)
	}
}

// demandRight refuses values that are not valid.
func demandRight(values ...api.Value) {
	for _, v := range values {
		if !digit.Right(v) {
			refuse(api.ErrInvalid)
		}
	}
}

// demandValid refuses a type that is not valid.
func demandValid(t api.Type) {
	if !digit.Valid(t) {
		refuse(api.ErrType)
	}
}

// demandOf refuses a type that is not valid, and a value that is not of it.
func demandOf(t api.Type, v api.Value) {
	if !digit.Has(t, v) {
		refuse(api.ErrType)
	}
}

// demandNumbers refuses valid values that are no numbers.
func demandNumbers(values ...api.Value) {
	for _, v := range values {
		_, e := digit.Sign(v)
		demandOK(e)
	}
}

// demandReckoned refuses what can't be reckoned in a type: values, and the type itself.
func demandReckoned(t api.Type, values ...api.Value) {
	demandRight(values...)
	demandValid(t)
	demandNumbers(values...)
	_, e := rule.Negated(t)
	demandOK(e)
}

// demandFew refuses more values than a list may have.
func demandFew(l []api.Value) {
	if len(l) > api.MaxItems {
		refuse(api.ErrLimit)
	}
}
