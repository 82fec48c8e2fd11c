package conv

import (
	"strconv"
	"strings"

	"ironbark/api"
	"ironbark/digit"
	"ironbark/rule"
)

// How many bytes of a field there are beside the digits of its number.
const (
	aroundFixed = 3 // a sign, a 0 ahead of the point, the point
	aroundFloat = 6 // a sign, the point, the E, its sign and two digits
)

func widthOfDec(from api.Type) int { return max(from.P, from.Q) + aroundFixed }

func widthOfBin(from api.Type) int { return widthOfDec(decimalOf(from)) }

func widthOfFloat(from api.Type) int { return from.P + aroundFloat }

// decimalOf is a binary type as decimal.
func decimalOf(binary api.Type) api.Type {
	decimal, e := rule.Decimal(binary)
	demandOK(e)
	return decimal
}

func fieldOfDec(v api.Value, w way) taken {
	return taken{value: ofCharacters(filledAhead(" ", textOf(v), widthOfDec(w.from)))}
}

func fieldOfBin(v api.Value, w way) taken {
	decimal := decimalOf(w.from)
	number := fitted(v, way{w.from, decimal})
	field := fieldOfDec(number.value, way{decimal, w.to})
	return taken{field.value, number.raise}
}

func fieldOfFloat(v api.Value, w way) taken {
	sign, text := signCut(textOf(v), " ")
	number, exponent, _ := strings.Cut(text, "E")
	first, further, _ := strings.Cut(number, ".")
	further += strings.Repeat("0", w.from.P-1-len(further))
	return taken{value: ofCharacters(sign + first + "." + further + "E" + signedExponent(exponent))}
}

func signedExponent(text string) string {
	sign, exponent := signCut(text, "+")
	return sign + filledAhead("0", exponent, 2)
}

// signCut is the sign of a number's text, and what stands behind it; without a sign it is the one of numbers that are not below 0.
func signCut(text, positive string) (sign, rest string) {
	if rest, below := strings.CutPrefix(text, "-"); below {
		return "-", rest
	}
	return positive, text
}

func textOf(v api.Value) string {
	text, e := digit.Text(v)
	demandOK(e)
	return text
}

// filledAhead is a text, which is not longer, with as many fillers ahead as it lacks.
func filledAhead(filler, text string, length int) string {
	return strings.Repeat(filler, length-len(text)) + text
}

// aheadOfPoint is how many digits, or bits, of a fixed type stand ahead of the point.
func aheadOfPoint(from api.Type) int { return max(0, from.P-from.Q) }

func bitsOfBin(from api.Type) int { return aheadOfPoint(from) }

func bitsOfDec(from api.Type) int { return bitsForDigits(aheadOfPoint(from)) }

func bitsOfFloat(from api.Type) int { return bitsForDigits(from.P) }

func bitsForDigits(n int) int { return min(api.MaxBin, (10*n+2)/3) }

// wholePart is the bits of a number's whole part, as many as its type has.
func wholePart(v api.Value, w way) taken {
	length := w.length()
	if length == 0 {
		// No number can be fitted to no bits; but those of such a type are all below 1.
		return taken{value: ofBits("")}
	}
	whole := fitted(v, way{w.from, api.Type{Kind: api.TBin, P: length}})
	magnitude := max(whole.value.N, -whole.value.N)
	return taken{ofBits(filledAhead("0", strconv.FormatInt(int64(magnitude), 2), length)), whole.raise}
}
