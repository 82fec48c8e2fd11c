package pair

import (
	"math/bits"

	"ironbark/api"
	"ironbark/arith"
	"ironbark/rule"
)

// mostPower is the greatest exponent of a power.
const mostPower = 100

// operand is a pair with its type.
type operand struct {
	api.Pair
	of api.Type
}

// operator is what an operator's sign stands for, its left operand in hand: what it does with the right one.
type operator struct {
	does func(y operand, in room) api.Pair
}

func (x operand) operators() map[string]operator {
	return map[string]operator{
		"+": {x.plus},
		"-": {x.minus},
		"*": {x.times},
		"/": {x.over},
	}
}

// operatorOf is the operator of a sign; it refuses what is none.
func operatorOf(all map[string]operator, sign string) operator {
	found, is := all[sign]
	if !is {
		refuse(api.ErrName)
	}
	return found
}

// resultOf is the type of a result. Quotients are floats whatever the operands are.
func resultOf(op string, a, b api.Type) api.Type {
	if op == "/" {
		a, b = floatOf(a), floatOf(b)
	}
	t, e := rule.Result(op, a, b)
	demandOK(e)
	return t
}

func (x operand) plus(y operand, _ room) api.Pair { return x.partByPart("+", y) }

func (x operand) minus(y operand, _ room) api.Pair { return x.partByPart("-", y) }

// partByPart needs no room: layer arith finds the same type.
func (x operand) partByPart(op string, y operand) api.Pair {
	re, im := bothParts(x.Pair, y.Pair, func(a, b api.Value) api.Value {
		v, _, cond, e := arith.Do(op, a, b, x.of, y.of)
		return quiet(v, cond, e)
	})
	return api.Pair{Re: re, Im: im}
}

func (x operand) times(y operand, in room) api.Pair {
	p, q := in.product(x.Re, y.Re), in.product(x.Im, y.Im)
	r, s := in.product(x.Re, y.Im), in.product(x.Im, y.Re)
	return api.Pair{Re: in.difference(p, q), Im: in.sum(r, s)}
}

func (x operand) over(y operand, in room) api.Pair {
	d := y.norm(in)
	if d.N == 0 {
		raise(api.CZeroDivide)
	}
	re := in.quotient(in.sum(in.product(x.Re, y.Re), in.product(x.Im, y.Im)), d)
	im := in.quotient(in.difference(in.product(x.Im, y.Re), in.product(x.Re, y.Im)), d)
	return api.Pair{Re: re, Im: im}
}

func (x operand) norm(in room) api.Value {
	return in.sum(in.product(x.Re, x.Re), in.product(x.Im, x.Im))
}

// power goes from the highest bit of n to the lowest one.
func (x operand) power(n int, in room) api.Pair {
	base, so := x, operand{in.one(), api.Type(in)}
	base.Re, base.Im = eachPart(x.Pair, in.fit)
	for at := bits.Len(uint(n)) - 1; at >= 0; at-- {
		so.Pair = so.times(so, in)
		if n>>at&1 == 1 {
			so.Pair = so.times(base, in)
		}
	}
	return so.Pair
}
