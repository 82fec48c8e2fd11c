package digit

import "ironbark/api"

// long is a whole number; 0 is not negative.
type long struct {
	limbs
	negative bool
}

// signed is limbs with a sign.
func signed(l limbs, negative bool) long {
	return long{limbs: l, negative: negative && !l.isZero()}
}

// longOf is a plain number as a long one.
func longOf(n int) long { return signed(magnitude(n), n < 0) }

// int is a long number as a plain one, whose size it has.
func (a long) int() int {
	n := int(word(a.limbs, 1)<<32 | word(a.limbs, 0))
	if a.negative {
		return -n
	}
	return n
}

func (a long) plus(b long) long {
	if a.negative == b.negative {
		return signed(sum(a.limbs, b.limbs), a.negative)
	}
	if compare(a.limbs, b.limbs) < 0 {
		return signed(difference(b.limbs, a.limbs), b.negative)
	}
	return signed(difference(a.limbs, b.limbs), a.negative)
}

// scaled is a long number times a natural one.
func (a long) scaled(by limbs) long { return signed(product(a.limbs, by), a.negative) }

// exact is a number as it is: a long one over a natural one, not in lowest terms. Over 0 it is what a division by 0 leaves, and no number.
type exact struct {
	long
	under limbs
}

// exactBin, exactDec and exactFloat are valid values as the numbers that they are.
func exactBin(v api.Value) exact { return exact{longOf(v.N), power(2, v.Q)} }

func exactDec(v api.Value) exact { return exact{longOf(v.N), power(10, v.Q)} }

func exactFloat(v api.Value) exact { return exact{longOf(v.N), natural(1)}.shift(v.Q) }

func (x exact) sign() int {
	if x.negative {
		return -1
	}
	if x.isZero() {
		return 0
	}
	return 1
}

// shift is a number times 10 to the power of n.
func (x exact) shift(n int) exact {
	if n < 0 {
		return exact{x.long, product(x.under, power(10, -n))}
	}
	return exact{x.scaled(power(10, n)), x.under}
}

func (x exact) negated() exact { return exact{signed(x.limbs, !x.negative), x.under} }

func (x exact) plus(y exact) exact {
	if compare(x.under, y.under) == 0 {
		return exact{x.long.plus(y.long), x.under}
	}
	return exact{x.scaled(y.under).plus(y.scaled(x.under)), product(x.under, y.under)}
}

func (x exact) minus(y exact) exact { return x.plus(y.negated()) }

func (x exact) times(y exact) exact {
	return exact{signed(product(x.limbs, y.limbs), x.negative != y.negative), product(x.under, y.under)}
}

func (x exact) over(y exact) exact {
	above := product(x.limbs, y.under)
	return exact{signed(above, x.negative != y.negative), product(x.under, y.limbs)}
}

// modulo is x - y * n, where n is the greatest whole number that is at most x / y.
func (x exact) modulo(y exact) exact {
	quotient := x.over(y)
	if quotient.under.isZero() {
		return quotient
	}
	n := exact{quotient.floor(), natural(1)}
	return x.minus(y.times(n))
}

// floor is the greatest whole number that is not above a number.
func (x exact) floor() long {
	whole, rest := divided(x.limbs, x.under)
	if x.negative && !rest.isZero() {
		whole = sum(whole, natural(1))
	}
	return signed(whole, x.negative)
}

// exponent is the power of 10 of the first digit of a number that is not 0.
func (x exact) exponent() int {
	e := x.length() - x.under.length()
	if first := x.shift(-e); compare(first.limbs, first.under) < 0 {
		e--
	}
	return e
}
