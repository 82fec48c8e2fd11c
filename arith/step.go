package arith

import (
	"iter"
	"math/bits"

	"ironbark/api"
	"ironbark/digit"
)

// mostPower is the greatest exponent of a power, with either sign.
const mostPower = 1000

// step goes on from the value that was reckoned so far.
type step func(so api.Value) fitted

// walked takes steps one after the other. The first one with a condition is the last.
func walked(from api.Value, steps iter.Seq[step]) fitted {
	so := fitted{value: from}
	for next := range steps {
		so = next(so.value)
		if so.cond != 0 {
			break
		}
	}
	return so
}

// then is the step that reckons with a number, and fits to a type.
func then(reckon reckoning, with api.Value, to api.Type) step {
	return func(so api.Value) fitted {
		return reckonedBy(reckon)(operation{operands{so, with}, to})
	}
}

func sumSteps(l []api.Value, t api.Type) iter.Seq[step] {
	return func(yield func(step) bool) {
		for _, v := range l {
			if !yield(then(digit.Add, v, t)) {
				return
			}
		}
	}
}

func polynomialSteps(x api.Value, l []api.Value, t api.Type) iter.Seq[step] {
	times := then(digit.Multiply, x, t)
	return func(yield func(step) bool) {
		for i := len(l) - 1; i >= 0; i-- {
			if !yield(times) || !yield(then(digit.Add, l[i], t)) {
				return
			}
		}
	}
}

// power is a to the power of b. Its type is one of floats, so that with each condition 0 is taken.
func (o operation) power() fitted {
	n, is, e := digit.Whole(o.b)
	if e != api.OK || !is || n < -mostPower || n > mostPower {
		return fitted{zeroOf(o.to), api.CError}
	}
	// Fitting a tells no condition: the type of the power has at least as many digits as a float a, and fixed numbers are far from a float's ends.
	base, _, e := digit.Fit(o.a, o.to)
	demandOK(e)
	return walked(one(), powerSteps(base, n, o.to))
}

func powerSteps(base api.Value, n int, to api.Type) iter.Seq[step] {
	multiply, divide := reckonedBy(digit.Multiply), reckonedBy(digit.Divide)
	square := func(so api.Value) fitted { return multiply(operation{operands{so, so}, to}) }
	invert := func(so api.Value) fitted { return divide(operation{operands{one(), so}, to}) }
	times := then(digit.Multiply, base, to)
	return func(yield func(step) bool) {
		for bit := range bitsOf(max(n, -n)) {
			if !yield(square) || bit && !yield(times) {
				return
			}
		}
		if n < 0 {
			yield(invert)
		}
	}
}

// one is the float 1, of which every type of floats has room.
func one() api.Value { return api.Value{Kind: api.TFloat, N: 1} }

// bitsOf gives the bits of a number that is not below 0, the highest 1 first; 0 has none.
func bitsOf(n int) iter.Seq[bool] {
	return func(yield func(bool) bool) {
		for at := bits.Len(uint(n)) - 1; at >= 0; at-- {
			if !yield(n>>at&1 == 1) {
				return
			}
		}
	}
}
