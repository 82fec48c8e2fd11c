package rule

import "ironbark/api"

func isNumber(t api.Type) bool {
	return t.Kind == api.TBin || t.Kind == api.TDec || t.Kind == api.TFloat
}

func isString(t api.Type) bool { return t.Kind == api.TChar || t.Kind == api.TBit }

// isData reports whether values of a type can be turned into numbers and strings.
func isData(t api.Type) bool { return isNumber(t) || isString(t) || t.Kind == api.TPic }

func binary(p, q int) api.Type { return api.Type{Kind: api.TBin, P: p, Q: q} }

func decimal(p, q int) api.Type { return api.Type{Kind: api.TDec, P: p, Q: q} }

func float(p int) api.Type { return api.Type{Kind: api.TFloat, P: p} }

// asBinary is a type of fixed numbers as binary: a digit counts as 10/3 bits, rounded up.
func asBinary(t api.Type) api.Type {
	if t.Kind == api.TBin {
		return t
	}
	return binary(min(api.MaxBin, (10*t.P+2)/3+1), min(api.MaxScale, (10*t.Q+2)/3))
}

// asDecimal is a type of fixed numbers as decimal: a bit counts as 3/10 of a digit, rounded up.
func asDecimal(t api.Type) api.Type {
	if t.Kind == api.TDec {
		return t
	}
	return decimal(min(api.MaxDec, (3*t.P+9)/10+1), min(api.MaxScale, (3*t.Q+9)/10))
}

// asFloat is a type of numbers as float.
func asFloat(t api.Type) api.Type {
	if t.Kind == api.TBin {
		return float(min(api.MaxDec, (3*t.P+9)/10))
	}
	return float(t.P)
}

// asNumber is what a valid type counts as; it refuses what is neither a number's nor a string's.
func asNumber(t api.Type) api.Type {
	switch {
	case isNumber(t):
		return t
	case t.Kind == api.TChar:
		return decimal(api.MaxDec, 0)
	case t.Kind == api.TBit:
		return binary(api.MaxBin, 0)
	}
	refuse(api.ErrKind)
	return api.Type{}
}

// alike is two types of numbers, both as their common base.
func alike(a, b api.Type) (api.Type, api.Type) {
	switch {
	case a.Kind == api.TFloat || b.Kind == api.TFloat:
		return asFloat(a), asFloat(b)
	case a.Kind == api.TBin || b.Kind == api.TBin:
		return asBinary(a), asBinary(b)
	}
	return a, b
}

// mostOf is the greatest precision of a base of fixed numbers.
func mostOf(kind int) int {
	if kind == api.TBin {
		return api.MaxBin
	}
	return api.MaxDec
}
