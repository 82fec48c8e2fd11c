package attr

import "ironbark/api"

// most is how many rules or sets a call takes.
const most = 100

// refusal is an error on its way out to the call that it ends.
type refusal api.Errno

// refuse leaves the work of the call with an error.
func refuse(e api.Errno) { panic(refusal(e)) }

// answered is what the work of a call returns, or zero and the error with which it was left.
func answered[T any](work func() T) (answer T, e api.Errno) {
	defer func() {
		switch left := recover().(type) {
		case nil:
		case refusal:
			e = api.Errno(left)
		default:
			e = api.ErrInvalid
		}
	}()
	return work(), api.OK
}

// demand refuses what is not as it should be.
func demand(is bool, e api.Errno) {
	if !is {
		refuse(e)
	}
}

// demandOK refuses what could not be added.
func demandOK(e api.Errno) { demand(e == api.OK, e) }

// demandRight refuses a set that is not right.
func demandRight(s api.Set) { demand(isRight(s), api.ErrInvalid) }

// demandRule refuses a rule whose bounds or whose set are not right.
func demandRule(d api.Default) {
	demand(isBound(d.Low) && isBound(d.High) && d.Low <= d.High, api.ErrInvalid)
	demandRight(d.Set)
}

// isBound reports whether a text may be a bound of a rule. It need not be a name: names are compared with it byte by byte.
func isBound(text string) bool { return text != "" && len(text) <= api.MaxName }
