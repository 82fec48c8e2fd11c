package digit

import "ironbark/api"

// refusal is an error on its way out to the call that it ends.
type refusal api.Errno

// refuse leaves the work of the call with an error.
func refuse(e api.Errno) { panic(refusal(e)) }

// guarded does the work and returns the error with which it was left. The work assigns results only when nothing can refuse any more, so that they stay zero beside an error.
func guarded(work func()) (e api.Errno) {
	defer func() {
		switch left := recover().(type) {
		case nil:
		case refusal:
			e = api.Errno(left)
		default:
			e = api.ErrInvalid
		}
	}()
	work()
	return e
}

// demandRight refuses values that are not valid.
func demandRight(values ...api.Value) {
	for _, v := range values {
		if !Right(v) {
			refuse(api.ErrInvalid)
		}
	}
}

// demandValid refuses a type that is not valid.
func demandValid(t api.Type) {
	if !Valid(t) {
		refuse(api.ErrType)
	}
}

// demandNumber refuses a valid value that is no number.
func demandNumber(v api.Value) {
	if rulesOf(v.Kind).exact == nil {
		refuse(api.ErrKind)
	}
}

// exactly is a valid value as the exact number that it is; it refuses what is no number.
func exactly(v api.Value) exact {
	demandNumber(v)
	return rulesOf(v.Kind).exact(v)
}
