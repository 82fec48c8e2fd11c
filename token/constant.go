package token

import (
	"strconv"
	"strings"

	"ironbark/api"
)

// numeral is a number as it is written: its digits, so many of them behind the point, and the exponent behind the E.
type numeral struct {
	kind     int
	digits   string
	scale    int
	exponent int
}

// numeralOf is what a token of a number writes.
func numeralOf(text string) numeral {
	kind := api.TDec
	text, exponent, isFloat := strings.Cut(text, "E")
	text, isBinary := strings.CutSuffix(text, "B")
	switch {
	case isFloat:
		kind = api.TFloat
	case isBinary:
		kind = api.TBin
	}
	whole, fraction, _ := strings.Cut(text, ".")
	n, _ := strconv.Atoi(exponent) // without an E: 0
	return numeral{kind, whole + fraction, len(fraction), n}
}

// meaning is a numeral's type and value.
func (n numeral) meaning() (api.Type, api.Value, api.Errno) {
	base, most := 10, api.MaxDec
	if n.kind == api.TBin {
		base, most = 2, api.MaxBin
	}
	if len(n.digits) > most {
		return api.Type{}, api.Value{}, api.ErrRange
	}
	whole, _ := strconv.ParseInt(n.digits, base, 64)
	if n.kind == api.TFloat {
		return n.float(int(whole))
	}
	return api.Type{Kind: n.kind, P: len(n.digits), Q: n.scale}, api.Value{Kind: n.kind, N: int(whole), Q: n.scale}, api.OK
}

// float is the type and the value of a float whose digits are a whole number. Of 0 each exponent is in range.
func (n numeral) float(whole int) (api.Type, api.Value, api.Errno) {
	t, v := api.Type{Kind: n.kind, P: len(n.digits)}, api.Value{Kind: n.kind}
	if whole == 0 {
		return t, v, api.OK
	}
	v.N, v.Q = whole, n.exponent-n.scale
	for v.N%10 == 0 {
		v.N /= 10
		v.Q++
	}
	exponent := len(strconv.Itoa(v.N)) + v.Q - 1
	if exponent < -api.MaxExp || exponent > api.MaxExp {
		return api.Type{}, api.Value{}, api.ErrRange
	}
	return t, v, api.OK
}
