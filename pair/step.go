package pair

import (
	"ironbark/api"
	"ironbark/digit"
)

// raised is a condition on its way out to the operation whose steps it ends.
type raised int

// raise leaves the steps of an operation with a condition.
func raise(cond int) { panic(raised(cond)) }

// taken does the steps of an operation. The first condition ends them, and the zero is taken then.
func taken[T any](zero T, steps func() T) (got T, cond int) {
	defer func() {
		switch left := recover().(type) {
		case nil:
		case raised:
			got, cond = zero, int(left)
		default:
			// An error is for the call as a whole.
			panic(left)
		}
	}()
	return steps(), 0
}

// quiet is what a step gives, if it gives it without a condition.
func quiet(v api.Value, cond int, e api.Errno) api.Value {
	demandOK(e)
	if cond != 0 {
		raise(cond)
	}
	return v
}

// room is the type to which each step of an operation is fitted.
type room api.Type

func (in room) sum(a, b api.Value) api.Value { return quiet(digit.Add(a, b, api.Type(in))) }

func (in room) difference(a, b api.Value) api.Value {
	return quiet(digit.Subtract(a, b, api.Type(in)))
}

func (in room) product(a, b api.Value) api.Value { return quiet(digit.Multiply(a, b, api.Type(in))) }

func (in room) quotient(a, b api.Value) api.Value { return quiet(digit.Divide(a, b, api.Type(in))) }

func (in room) fit(v api.Value) api.Value { return quiet(digit.Fit(v, api.Type(in))) }

// one is 1 and 0, in a room of floats.
func (in room) one() api.Pair {
	one := zerosOf(api.Type(in))
	one.Re.N = 1
	return one
}
