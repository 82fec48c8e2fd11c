package built

import (
	"cmp"

	"ironbark/api"
	"ironbark/rule"
)

// The types of results are told as the arguments make them: one that is not valid is refused by the call.

func itsNumber(s signature) api.Type { return s.number(0) }

func itsText(s signature) api.Type { return s.text(0) }

func itsCharacters(s signature) api.Type { return s.characters(0) }

func aCount(signature) api.Type { return whole() }

// itsWhole has room for the next whole number.
func itsWhole(s signature) api.Type {
	x := s.number(0)
	if x.Kind == api.TFloat {
		return x
	}
	return api.Type{Kind: x.Kind, P: precision(x, 1)}
}

func rounded(s signature) api.Type {
	x, n := s.number(0), s.count(1)
	if x.Kind == api.TFloat {
		return api.Type{Kind: x.Kind, P: n}
	}
	return api.Type{Kind: x.Kind, P: precision(x, 1+n), Q: n}
}

// precision is that of a fixed type's whole part, and so many digits more.
func precision(x api.Type, more int) int {
	return bounded(x.P-x.Q+more, 1, mostOf(x.Kind))
}

// mostOf is the greatest precision of a kind of fixed numbers.
func mostOf(kind int) int {
	if kind == api.TBin {
		return api.MaxBin
	}
	return api.MaxDec
}

// bounded is what is nearest to n from low to high.
func bounded[T cmp.Ordered](n, low, high T) T { return min(max(n, low), high) }

func common(s signature) api.Type { return told(rule.Common(s.numbers())) }

// reckoned is of the base that two numbers have in common.
func reckoned(s signature) api.Type {
	base := told(rule.Common(s.numbers()[:2])).Kind
	return shaped(base, s.count(2), s.countIfAny(3))
}

// turned is a number's type in another base, or the precision and the scale that are asked for in that base.
func turned(turn func(api.Type) (api.Type, api.Errno)) func(s signature) api.Type {
	return func(s signature) api.Type {
		t := told(turn(asFixed(s.number(0))))
		if len(s.types) == 1 {
			return t
		}
		return shaped(t.Kind, s.count(1), s.countIfAny(2))
	}
}

// asFixed is a number's type, a float's as if all its digits stood ahead of the point.
func asFixed(x api.Type) api.Type {
	if x.Kind == api.TFloat {
		return api.Type{Kind: api.TDec, P: x.P}
	}
	return x
}

// shaped is a type of numbers. Floats have no scale.
func shaped(kind, p, q int) api.Type {
	if kind == api.TFloat {
		return api.Type{Kind: kind, P: p}
	}
	return api.Type{Kind: kind, P: p, Q: q}
}

// varying is of the first argument's strings, or of shorter ones.
func varying(s signature) api.Type {
	t := s.text(0)
	t.Vary = true
	return t
}

func longest(s signature) api.Type {
	return api.Type{Kind: s.text(0).Kind, N: api.MaxLen, Vary: true}
}

func longerDigits(s signature) api.Type {
	return api.Type{Kind: api.TBit, N: max(s.digits(0).N, s.digits(1).N), Vary: true}
}

// asLong is strings of a kind as long as is asked for, or as all of the argument needs.
func asLong(kind int) func(s signature) api.Type {
	return func(s signature) api.Type {
		if len(s.types) == 1 {
			return api.Type{Kind: kind, N: lengthAs(kind, s.types[0])}
		}
		return api.Type{Kind: kind, N: s.count(1)}
	}
}

// counted is so many characters.
func counted(s signature) api.Type { return api.Type{Kind: api.TChar, N: s.count(0)} }
