package built

import (
	"ironbark/api"
	"ironbark/arith"
	"ironbark/digit"
)

// reckoning is how layer digit brings what comes of two numbers to a type.
type reckoning func(a, b api.Value, t api.Type) (v api.Value, cond int, e api.Errno)

func reckonedBy(reckon reckoning) func(w work) api.Value {
	return func(w work) api.Value { return w.taken(reckon(w.args[0], w.args[1], w.to)) }
}

func magnitude(w work) api.Value {
	x := w.args[0]
	if told(digit.Sign(x)) < 0 {
		x = told(digit.Negate(x))
	}
	return w.fitted(x)
}

func sign(w work) api.Value { return w.count(told(digit.Sign(w.args[0]))) }

// wholePart is a number without its fraction, or the next whole number for those that are not whole and have the sign of away: the one on the other side.
func wholePart(away int) func(w work) api.Value {
	return func(w work) api.Value {
		x := w.args[0]
		n, is, e := digit.Whole(x)
		if is || e == api.ErrRange { // a number too great for Whole has no fraction
			return w.fitted(x)
		}
		demandOK(e)
		if told(digit.Sign(x)) == away {
			n += away
		}
		return w.fitted(api.Value{Kind: api.TDec, N: n})
	}
}

// nearest is rounded to the digits of the result's type, which are those that were asked for.
func nearest(w work) api.Value { return w.taken(digit.Round(w.args[0], w.to)) }

// extreme is the argument that stands in an order to all others.
func extreme(order string) func(w work) api.Value {
	return func(w work) api.Value {
		best := w.args[0]
		for _, x := range w.args[1:] {
			if told(arith.Compare(order, x, best)) {
				best = x
			}
		}
		return w.fitted(best)
	}
}
