package pair

import (
	"ironbark/api"
	"ironbark/digit"
	"ironbark/rule"
)

// eachPart is what a function makes of Re, and then of Im.
func eachPart[T any](x api.Pair, of func(part api.Value) T) (re, im T) {
	re = of(x.Re)
	im = of(x.Im)
	return re, im
}

// bothParts is what a function makes of the Re of two pairs, and then of their Im.
func bothParts[T any](x, y api.Pair, of func(a, b api.Value) T) (re, im T) {
	re = of(x.Re, y.Re)
	im = of(x.Im, y.Im)
	return re, im
}

// isOf reports whether both parts are of a type, of whatever kind.
func isOf(t api.Type, x api.Pair) bool {
	re, im := eachPart(x, func(part api.Value) bool { return digit.Has(t, part) })
	return re && im
}

func isOfNumbers(t api.Type) bool {
	_, e := rule.Float(t)
	return e == api.OK
}

// floatOf is a type as float; it refuses a type of no numbers.
func floatOf(t api.Type) api.Type {
	float, e := rule.Float(t)
	demandOK(e)
	return float
}

func orderOf(a, b api.Value) int {
	order, e := digit.Compare(a, b)
	demandOK(e)
	return order
}

func negated(v api.Value) api.Value {
	turned, e := digit.Negate(v)
	demandOK(e)
	return turned
}

func zeroOf(t api.Type) api.Value {
	zero, e := digit.Zero(t)
	demandOK(e)
	return zero
}

func zerosOf(t api.Type) api.Pair { return api.Pair{Re: zeroOf(t), Im: zeroOf(t)} }
