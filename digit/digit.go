// Package digit knows types and values of numbers, and reckons with them exactly.
//
// It is specified in shared/doc/01-digit.md.
package digit

import "ironbark/api"

// Valid reports whether a type is valid.
func Valid(t api.Type) bool {
	ask := rulesOf(t.Kind).valid
	return ask != nil && ask(t)
}

// Right reports whether a value is valid.
func Right(v api.Value) bool {
	ask := rulesOf(v.Kind).right
	return ask != nil && ask(v)
}

// Has reports whether a value is of a type.
func Has(t api.Type, v api.Value) bool {
	return Valid(t) && Right(v) && t.Kind == v.Kind && rulesOf(t.Kind).holds(t, v)
}

// Zero is a type's 0.
func Zero(t api.Type) (v api.Value, e api.Errno) {
	e = guarded(func() {
		demandValid(t)
		v = zeroOf(t)
	})
	return v, e
}

// Sign is a number's sign.
func Sign(v api.Value) (sign int, e api.Errno) {
	e = guarded(func() {
		demandRight(v)
		sign = exactly(v).sign()
	})
	return sign, e
}

// Compare compares two numbers.
func Compare(a, b api.Value) (order int, e api.Errno) {
	e = guarded(func() {
		demandRight(a, b)
		order = exactly(a).minus(exactly(b)).sign()
	})
	return order, e
}

// Negate turns a number's sign.
func Negate(v api.Value) (w api.Value, e api.Errno) {
	e = guarded(func() {
		demandRight(v)
		demandNumber(v)
		w = api.Value{Kind: v.Kind, N: -v.N, Q: v.Q}
	})
	return w, e
}

// Fit fits a number to a type.
func Fit(v api.Value, t api.Type) (w api.Value, cond int, e api.Errno) {
	return brought(v, t, cut)
}

// Round fits a number to a type, rounded.
func Round(v api.Value, t api.Type) (w api.Value, cond int, e api.Errno) {
	return brought(v, t, nearest)
}

// brought fits a single number to a type.
func brought(v api.Value, t api.Type, ending rounding) (w api.Value, cond int, e api.Errno) {
	e = guarded(func() {
		demandRight(v)
		demandValid(t)
		x := exactly(v)
		w, cond = fitting(t, ending, api.CSize)(x)
	})
	return w, cond, e
}

// Add adds.
func Add(a, b api.Value, t api.Type) (v api.Value, cond int, e api.Errno) {
	return reckoned(a, b, t, exact.plus, api.CFixedOverflow)
}

// Subtract subtracts.
func Subtract(a, b api.Value, t api.Type) (v api.Value, cond int, e api.Errno) {
	return reckoned(a, b, t, exact.minus, api.CFixedOverflow)
}

// Multiply multiplies.
func Multiply(a, b api.Value, t api.Type) (v api.Value, cond int, e api.Errno) {
	return reckoned(a, b, t, exact.times, api.CFixedOverflow)
}

// Divide divides.
func Divide(a, b api.Value, t api.Type) (v api.Value, cond int, e api.Errno) {
	return reckoned(a, b, t, exact.over, api.CFixedOverflow)
}

// Modulo is what is left of a, when b is taken away as often as it goes.
func Modulo(a, b api.Value, t api.Type) (v api.Value, cond int, e api.Errno) {
	return reckoned(a, b, t, exact.modulo, api.CSize)
}

// reckoned fits the exact result of an operator to a type; large is the condition of a result that is too large.
func reckoned(a, b api.Value, t api.Type, operator func(x, y exact) exact, large int) (v api.Value, cond int, e api.Errno) {
	e = guarded(func() {
		demandRight(a, b)
		demandValid(t)
		x, y := exactly(a), exactly(b)
		v, cond = fitting(t, cut, large)(operator(x, y))
	})
	return v, cond, e
}

// Whole is a number's whole part.
func Whole(v api.Value) (n int, is bool, e api.Errno) {
	e = guarded(func() {
		demandRight(v)
		x := exactly(v)
		whole, rest := divided(x.limbs, x.under)
		if compare(whole, power(10, api.MaxDec)) >= 0 {
			refuse(api.ErrRange)
		}
		n, is = signed(whole, x.negative).int(), rest.isZero()
	})
	return n, is, e
}

// Text writes a number.
func Text(v api.Value) (text string, e api.Errno) {
	e = guarded(func() {
		demandRight(v)
		demandNumber(v)
		text = rulesOf(v.Kind).text(v)
	})
	return text, e
}

// Read reads a number.
func Read(text string) (v api.Value, e api.Errno) {
	e = guarded(func() { v = readNumber(text) })
	return v, e
}
