package digit

import (
	"slices"
	"strconv"
	"strings"

	"ironbark/api"
)

// maxRead is how long a text may be that Read takes.
const maxRead = 80

func textBin(v api.Value) string {
	// N / 2^Q is N * 5^Q / 10^Q.
	return textFixed(longOf(v.N).scaled(power(5, v.Q)), v.Q)
}

func textDec(v api.Value) string { return textFixed(longOf(v.N), v.Q) }

// textFixed writes a long number with its point ahead of the last q digits.
func textFixed(a long, q int) string {
	digits := a.text()
	if lack := q + 1 - len(digits); lack > 0 {
		digits = strings.Repeat("0", lack) + digits
	}
	point := len(digits) - q
	return a.mark() + pointed(digits[:point], digits[point:])
}

func textFloat(v api.Value) string {
	if v.N == 0 {
		return "0E0"
	}
	a := longOf(v.N)
	digits := a.text()
	exponent := v.Q + len(digits) - 1
	return a.mark() + pointed(digits[:1], digits[1:]) + "E" + strconv.Itoa(exponent)
}

// pointed is a number's two parts, with a point if there is a second one.
func pointed(whole, fraction string) string {
	if fraction == "" {
		return whole
	}
	return whole + "." + fraction
}

// mark is what stands ahead of a number's digits.
func (a long) mark() string {
	if a.negative {
		return "-"
	}
	return ""
}

// text is the decimal digits, the highest one first; 0 has none.
func (l limbs) text() string {
	digits := slices.Collect(l.digits())
	slices.Reverse(digits)
	return string(digits)
}

// readNumber reads a number; it refuses what is none.
func readNumber(text string) api.Value {
	if len(text) > maxRead {
		refuse(api.ErrLong)
	}
	negative, text := cutSign(text)
	front, back, isFloat := strings.Cut(text, "E")
	whole, fraction, _ := strings.Cut(front, ".")
	if !isDigits(whole) || !isDigits(fraction) || whole+fraction == "" {
		refuse(api.ErrSyntax)
	}
	var v api.Value
	if isFloat {
		v = readFloat(whole+fraction, readPower(back)-len(fraction))
	} else {
		v = readFixed(whole+fraction, len(fraction))
	}
	if negative {
		v.N = -v.N
	}
	return v
}

// cutSign cuts a sign off, and reports whether it was a `-`.
func cutSign(text string) (negative bool, rest string) {
	if rest, found := strings.CutPrefix(text, "-"); found {
		return true, rest
	}
	return false, strings.TrimPrefix(text, "+")
}

func isDigits(text string) bool { return strings.Trim(text, "0123456789") == "" }

// readPower reads what stands behind an E.
func readPower(text string) int {
	negative, digits := cutSign(text)
	if len(digits) < 1 || len(digits) > 2 || !isDigits(digits) {
		refuse(api.ErrSyntax)
	}
	if negative {
		return -plainOf(digits)
	}
	return plainOf(digits)
}

func readFixed(digits string, q int) api.Value {
	digits = strings.TrimLeft(digits, "0")
	if len(digits) > api.MaxDec || q > api.MaxScale {
		refuse(api.ErrRange)
	}
	return api.Value{Kind: api.TDec, N: plainOf(digits), Q: q}
}

func readFloat(digits string, q int) api.Value {
	digits = strings.TrimLeft(digits, "0")
	if digits == "" {
		return api.Value{Kind: api.TFloat}
	}
	front := strings.TrimRight(digits, "0")
	q += len(digits) - len(front)
	if len(front) > api.MaxDec {
		refuse(api.ErrRange)
	}
	v := api.Value{Kind: api.TFloat, N: plainOf(front), Q: q}
	if !Right(v) {
		refuse(api.ErrRange)
	}
	return v
}

// plainOf is the number of at most MaxDec digits; of none 0.
func plainOf(digits string) int {
	n := 0
	for _, d := range digits {
		n = 10*n + int(d-'0')
	}
	return n
}
