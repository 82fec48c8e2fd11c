package digit

import "ironbark/api"

// rounding is how a number ends where its fraction has no room.
type rounding int

const (
	cut     rounding = iota // toward zero
	nearest                 // of two equally near ones the one further from 0
)

// fitter brings an exact number to a type, and tells the condition.
type fitter func(x exact) (api.Value, int)

// fitting is the fitter of a valid type; large is the condition of a number that is too large for a fixed type. It refuses a type of no numbers.
func fitting(t api.Type, ending rounding, large int) fitter {
	fits := rulesOf(t.Kind).fit
	if fits == nil {
		refuse(api.ErrKind)
	}
	fit := fits(t, ending, large)
	return func(x exact) (api.Value, int) {
		if x.under.isZero() {
			return zeroOf(t), api.CZeroDivide
		}
		return fit(x)
	}
}

func fitBin(t api.Type, ending rounding, large int) fitter { return fitFixed(t, 2, ending, large) }

func fitDec(t api.Type, ending rounding, large int) fitter { return fitFixed(t, 10, ending, large) }

func fitFixed(t api.Type, base int, ending rounding, large int) fitter {
	scale, bound := power(base, t.Q), power(base, t.P)
	return func(x exact) (api.Value, int) {
		cond := 0
		whole := ended(product(x.limbs, scale), x.under, ending)
		if compare(whole, bound) >= 0 {
			_, whole = divided(whole, bound)
			cond = large
		}
		return api.Value{Kind: t.Kind, N: signed(whole, x.negative).int(), Q: t.Q}, cond
	}
}

// ended is the whole number in the place of a fraction.
func ended(above, under limbs, ending rounding) limbs {
	whole, rest := divided(above, under)
	if ending == nearest && compare(sum(rest, rest), under) >= 0 {
		return sum(whole, natural(1))
	}
	return whole
}

// fitFloat rounds whatever the ending is, and never finds a number too large but by its exponent.
func fitFloat(t api.Type, _ rounding, _ int) fitter {
	return func(x exact) (api.Value, int) {
		if x.isZero() {
			return zeroOf(t), 0
		}
		q := x.exponent() - t.P + 1
		front := x.shift(-q)
		digits, dropped := dropZeros(ended(front.limbs, front.under, nearest))
		q += dropped
		// The exponent is asked only now: rounding may have carried into one digit more.
		exponent := q + digits.length() - 1
		if exponent > api.MaxExp {
			return zeroOf(t), api.COverflow
		}
		if exponent < -api.MaxExp {
			return zeroOf(t), api.CUnderflow
		}
		return api.Value{Kind: t.Kind, N: signed(digits, x.negative).int(), Q: q}, 0
	}
}

// dropZeros drops the zeros at the end of a number that is not 0, and tells how many.
func dropZeros(l limbs) (limbs, int) {
	n := 0
	for d := range l.digits() {
		if d != '0' {
			break
		}
		n++
	}
	rest, _ := divided(l, power(10, n))
	return rest, n
}
