package digit

import (
	"strings"

	"ironbark/api"
)

// Bounds of what the chapter allows beside api's limits.
const (
	maxPicture = 80                    // bytes of a picture
	decBound   = 1_000_000_000_000_000 // 10 to MaxDec
	binBound   = 1 << 31               // 2 to MaxBin
	blanks     = " "                   // what a string of characters is filled with
	zeros      = "0"                   // what a string of bits is filled with
)

// rules is what a kind asks of its types and values. Kinds that are not of numbers have no exact, fit and text; those that have no 0 have no zero.
type rules struct {
	valid func(t api.Type) bool
	right func(v api.Value) bool
	holds func(t api.Type, v api.Value) bool // of a valid type and a valid value of this kind
	zero  func(t api.Type) api.Value
	exact func(v api.Value) exact
	fit   func(t api.Type, ending rounding, large int) fitter
	text  func(v api.Value) string
}

// rulesOf is the rules of a kind; there are none for what is no kind.
func rulesOf(kind int) rules {
	list := [...]rules{
		api.TBin:   {validBin, rightBin, holdsBin, zeroFixed, exactBin, fitBin, textBin},
		api.TDec:   {validDec, rightDec, holdsDec, zeroFixed, exactDec, fitDec, textDec},
		api.TFloat: {validFloat, rightFloat, holdsFloat, zeroFloat, exactFloat, fitFloat, textFloat},
		api.TChar:  {valid: validString, right: rightText, holds: holdsString, zero: zeroChar},
		api.TBit:   {valid: validString, right: rightBits, holds: holdsString, zero: zeroBit},
		api.TPic:   {valid: validPicture, right: rightText, holds: holdsAny},
		api.TPtr:   {valid: validPlain, right: rightPointer, holds: holdsAny},
		api.TLabel: {valid: validPlain, right: rightPlace, holds: holdsAny},
		api.TEntry: {valid: validPlain, right: rightPlace, holds: holdsAny},
	}
	if kind < 0 || kind >= len(list) {
		return rules{}
	}
	return list[kind]
}

// zeroOf is a valid type's 0; it refuses a type that has none.
func zeroOf(t api.Type) api.Value {
	zero := rulesOf(t.Kind).zero
	if zero == nil {
		refuse(api.ErrKind)
	}
	return zero(t)
}

func within(n, low, high int) bool { return low <= n && n <= high }

// below reports whether a number's magnitude is less than a bound.
func below(n, bound int) bool { return -bound < n && n < bound }

func validBin(t api.Type) bool { return validFixed(t, api.MaxBin) }

func validDec(t api.Type) bool { return validFixed(t, api.MaxDec) }

func validFixed(t api.Type, maxP int) bool {
	return within(t.P, 1, maxP) && within(t.Q, 0, api.MaxScale) && t == api.Type{Kind: t.Kind, P: t.P, Q: t.Q}
}

func validFloat(t api.Type) bool {
	return within(t.P, 1, api.MaxDec) && t == api.Type{Kind: t.Kind, P: t.P}
}

func validString(t api.Type) bool {
	return within(t.N, 0, api.MaxLen) && t == api.Type{Kind: t.Kind, N: t.N, Vary: t.Vary}
}

func validPicture(t api.Type) bool {
	return within(len(t.Pic), 1, maxPicture) && t == api.Type{Kind: t.Kind, Pic: t.Pic}
}

func validPlain(t api.Type) bool { return t == api.Type{Kind: t.Kind} }

func rightBin(v api.Value) bool { return rightFixed(v, binBound) }

func rightDec(v api.Value) bool { return rightFixed(v, decBound) }

func rightFixed(v api.Value, bound int) bool {
	return below(v.N, bound) && within(v.Q, 0, api.MaxScale) && v.S == ""
}

func rightFloat(v api.Value) bool {
	if v.N == 0 {
		return v.Q == 0 && v.S == ""
	}
	if !below(v.N, decBound) || v.N%10 == 0 || v.S != "" {
		return false
	}
	// The digits go to the other side, where they can't overflow an exponent of any size.
	behind := magnitude(v.N).length() - 1
	return within(v.Q, -api.MaxExp-behind, api.MaxExp-behind)
}

func rightText(v api.Value) bool {
	return len(v.S) <= api.MaxLen && v.N == 0 && v.Q == 0
}

func rightBits(v api.Value) bool {
	return rightText(v) && strings.Trim(v.S, "01") == ""
}

func rightPointer(v api.Value) bool {
	return within(v.N, 0, api.MaxCount) && v.Q == 0 && v.S == ""
}

func rightPlace(v api.Value) bool {
	return within(v.N, 0, api.MaxCount) && within(v.Q, 0, api.MaxCount) && v.S == ""
}

func holdsBin(t api.Type, v api.Value) bool { return holdsFixed(t, v, 2) }

func holdsDec(t api.Type, v api.Value) bool { return holdsFixed(t, v, 10) }

func holdsFixed(t api.Type, v api.Value, base int) bool {
	return v.Q == t.Q && compare(magnitude(v.N), power(base, t.P)) < 0
}

func holdsFloat(t api.Type, v api.Value) bool { return magnitude(v.N).length() <= t.P }

func holdsString(t api.Type, v api.Value) bool {
	return len(v.S) == t.N || t.Vary && len(v.S) < t.N
}

func holdsAny(api.Type, api.Value) bool { return true }

func zeroFixed(t api.Type) api.Value { return api.Value{Kind: t.Kind, Q: t.Q} }

func zeroFloat(t api.Type) api.Value { return api.Value{Kind: t.Kind} }

func zeroChar(t api.Type) api.Value { return filled(t, blanks) }

func zeroBit(t api.Type) api.Value { return filled(t, zeros) }

func filled(t api.Type, with string) api.Value {
	if t.Vary {
		return api.Value{Kind: t.Kind}
	}
	return api.Value{Kind: t.Kind, S: strings.Repeat(with, t.N)}
}
