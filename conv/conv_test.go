package conv_test

import (
	"strings"
	"testing"

	"ironbark/api"
	"ironbark/conv"
)

func tbin(p, q int) api.Type { return api.Type{Kind: api.TBin, P: p, Q: q} }

func tdec(p, q int) api.Type { return api.Type{Kind: api.TDec, P: p, Q: q} }

func tfloat(p int) api.Type { return api.Type{Kind: api.TFloat, P: p} }

func tchar(n int) api.Type { return api.Type{Kind: api.TChar, N: n} }

func tbit(n int) api.Type { return api.Type{Kind: api.TBit, N: n} }

func vary(t api.Type) api.Type {
	t.Vary = true
	return t
}

func vbin(n, q int) api.Value { return api.Value{Kind: api.TBin, N: n, Q: q} }

func vdec(n, q int) api.Value { return api.Value{Kind: api.TDec, N: n, Q: q} }

func vfloat(n, q int) api.Value { return api.Value{Kind: api.TFloat, N: n, Q: q} }

func text(s string) api.Value { return api.Value{Kind: api.TChar, S: s} }

func digits(s string) api.Value { return api.Value{Kind: api.TBit, S: s} }

const (
	mostDec = 999_999_999_999_999
	mostBin = 1<<31 - 1
)

func many(s string, n int) string { return strings.Repeat(s, n) }

// typed is a value with its type.
type typed struct {
	api.Value
	of api.Type
}

func bin(n, p, q int) typed { return typed{vbin(n, q), tbin(p, q)} }

func dec(n, p, q int) typed { return typed{vdec(n, q), tdec(p, q)} }

func float(n, q, p int) typed { return typed{vfloat(n, q), tfloat(p)} }

func chars(s string) typed { return typed{text(s), tchar(len(s))} }

func bits(s string) typed { return typed{digits(s), tbit(len(s))} }

// converted is a conversion, with a condition that has no place, or none.
type converted struct {
	v    typed
	to   api.Type
	want api.Value
	cond int
}

func checkConverted(t *testing.T, l []converted) {
	t.Helper()
	for _, x := range l {
		w, r, e := conv.Convert(x.v.Value, x.v.of, x.to)
		if w != x.want || r != (api.Raise{Cond: x.cond}) || e != api.OK {
			t.Errorf("Convert(%+v, %+v) = %+v, %+v, %d; want %+v, %d", x.v, x.to, w, r, e, x.want, x.cond)
		}
	}
}

func TestNumbersToNumbers(t *testing.T) {
	checkConverted(t, []converted{
		{dec(125, 3, 2), tdec(2, 1), vdec(12, 1), 0},
		{dec(-125, 3, 2), tdec(5, 3), vdec(-1250, 3), 0},
		{dec(123, 3, 0), tdec(2, 0), vdec(23, 0), api.CSize},
		{dec(-123, 3, 0), tdec(2, 0), vdec(-23, 0), api.CSize},
		{dec(125, 3, 2), tbin(5, 2), vbin(5, 2), 0},
		{dec(8, 1, 0), tbin(3, 0), vbin(0, 0), api.CSize},
		{dec(125, 3, 2), tfloat(2), vfloat(13, -1), 0},
		{bin(11, 4, 1), tdec(2, 1), vdec(55, 1), 0},
		{bin(11, 4, 1), tbin(3, 0), vbin(5, 0), 0},
		{bin(11, 4, 0), tbin(3, 0), vbin(3, 0), api.CSize},
		{bin(11, 4, 1), tfloat(1), vfloat(6, 0), 0},
		{float(25, -1, 2), tdec(3, 0), vdec(2, 0), 0},
		{float(25, -1, 2), tbin(3, 1), vbin(5, 1), 0},
		{float(25, 20, 2), tdec(15, 0), vdec(0, 0), api.CSize},
		{float(25, -1, 2), tfloat(1), vfloat(3, 0), 0},
		{float(999, 73, 3), tfloat(2), vfloat(0, 0), api.COverflow},
	})
}

func TestNumbersToCharacters(t *testing.T) {
	checkConverted(t, []converted{
		{dec(1250, 5, 2), tchar(8), text("   12.50"), 0}, // the chapter's example
		{dec(1250, 5, 2), tchar(9), text("   12.50 "), 0},
		{dec(1250, 5, 2), tchar(7), text("   12.5"), api.CStringSize},
		{dec(1250, 5, 2), tchar(2), text("  "), api.CStringSize},
		{dec(1250, 5, 2), tchar(0), text(""), api.CStringSize},
		{dec(1250, 5, 2), vary(tchar(250)), text("   12.50"), 0},
		{dec(1250, 5, 2), vary(tchar(4)), text("   1"), api.CStringSize},
		{bin(5, 15, 0), tchar(9), text("        5"), 0},
		{bin(-5, 3, 1), vary(tchar(20)), text(" -2.5"), 0},
		{float(-125, 0, 4), tchar(10), text("-1.250E+02"), 0},
		{float(-125, 0, 4), tchar(6), text("-1.250"), api.CStringSize},
		{float(125, 0, 3), tchar(250), text(" 1.25E+02" + many(" ", 241)), 0},
	})
}

func TestNumbersToBits(t *testing.T) {
	checkConverted(t, []converted{
		{bin(5, 31, 0), tbit(4), digits("0000"), api.CStringSize}, // the chapter's examples
		{dec(5, 1, 0), vary(tbit(4)), digits("0101"), 0},
		{dec(5, 1, 0), tbit(6), digits("010100"), 0},
		{dec(5, 1, 0), tbit(3), digits("010"), api.CStringSize},
		{dec(-5, 1, 0), tbit(4), digits("0101"), 0},
		{dec(-59, 2, 1), tbit(4), digits("0101"), 0},
		{dec(9, 1, 1), vary(tbit(9)), digits(""), 0},
		{dec(9, 1, 1), tbit(3), digits("000"), 0},
		{dec(99, 2, 5), tbit(2), digits("00"), 0},
		{dec(99, 2, 0), tbit(7), digits("1100011"), 0},
		{dec(9999999999, 10, 0), tbit(31), digits("1010100000010111110001111111111"), api.CSize},
		{dec(mostDec, 15, 0), vary(tbit(250)), digits("0100100110001100111111111111111"), api.CSize},
		{dec(2147483647, 15, 5), vary(tbit(250)), digits("0000000000000000101001111100010"), 0},
		{bin(5, 3, 0), tbit(3), digits("101"), 0},
		{bin(-5, 3, 0), tbit(3), digits("101"), 0},
		{bin(13, 4, 1), vary(tbit(9)), digits("110"), 0},
		{bin(-13, 4, 1), vary(tbit(9)), digits("110"), 0},
		{bin(13, 4, 4), vary(tbit(9)), digits(""), 0},
		{bin(13, 4, 31), vary(tbit(9)), digits(""), 0},
		{bin(mostBin, 31, 0), vary(tbit(31)), digits(many("1", 31)), 0},
		{bin(1, 31, 0), tbit(33), digits(many("0", 30) + "100"), 0},
		{float(5, 0, 1), vary(tbit(9)), digits("0101"), 0},
		{float(-59, -1, 2), vary(tbit(9)), digits("0000101"), 0},
		{float(5, 1, 1), vary(tbit(9)), digits("0010"), api.CSize},
		{float(-5, 1, 1), vary(tbit(9)), digits("0010"), api.CSize},
		{float(1, 75, 1), vary(tbit(9)), digits("0000"), api.CSize},
		{float(1, -75, 1), vary(tbit(9)), digits("0000"), 0},
		{float(0, 0, 15), vary(tbit(40)), digits(many("0", 31)), 0},
		{float(mostBin, 0, 15), vary(tbit(40)), digits(many("1", 31)), 0},
		{float(mostBin+1, 0, 15), vary(tbit(40)), digits(many("0", 31)), api.CSize},
		// CSize is told ahead of CStringSize, and the bits are fitted all the same.
		{dec(1<<32+5<<27, 10, 0), tbit(4), digits("0101"), api.CSize},
		{float(5, 1, 1), tbit(3), digits("001"), api.CSize},
		{float(5, 1, 1), tbit(5), digits("00100"), api.CSize},
	})
}

func TestCharactersToNumbers(t *testing.T) {
	checkConverted(t, []converted{
		{chars("12.5"), tdec(3, 1), vdec(125, 1), 0},
		{chars("  -12.5 "), tdec(5, 2), vdec(-1250, 2), 0},
		{chars("12.59"), tdec(3, 1), vdec(125, 1), 0},
		{chars("125"), tdec(2, 0), vdec(25, 0), api.CSize},
		{chars("125"), tbin(7, 0), vbin(125, 0), 0},
		{chars("1.5E2"), tdec(3, 0), vdec(150, 0), 0},
		{chars("1.5E2"), tfloat(1), vfloat(2, 2), 0},
		{chars("9.9E75"), tfloat(1), vfloat(0, 0), api.COverflow},
		{chars("-101.1B"), tdec(3, 1), vdec(-55, 1), 0},
		{chars("101.1B"), tbin(3, 0), vbin(5, 0), 0},
		{chars("101"), tbin(3, 0), vbin(5, 0), api.CSize},
		{chars(""), tdec(2, 1), vdec(0, 1), 0},
		{chars("    "), tdec(2, 1), vdec(0, 1), 0},
		{chars("    "), tfloat(3), vfloat(0, 0), 0},
		{chars("    "), tbin(3, 2), vbin(0, 2), 0},
		{typed{text("12"), vary(tchar(9))}, tdec(2, 0), vdec(12, 0), 0},
	})
}

func TestCharactersAndBits(t *testing.T) {
	all := many("01", 125)
	checkConverted(t, []converted{
		{chars("0110"), tbit(4), digits("0110"), 0},
		{chars("0110"), tbit(5), digits("01100"), 0},
		{chars("0110"), tbit(3), digits("011"), api.CStringSize},
		{chars("0110"), vary(tbit(5)), digits("0110"), 0},
		{chars(""), tbit(2), digits("00"), 0},
		{chars(""), vary(tbit(2)), digits(""), 0},
		{chars(all), tbit(250), digits(all), 0},
		{bits("0110"), tchar(4), text("0110"), 0},
		{bits("0110"), tchar(5), text("0110 "), 0},
		{bits("0110"), tchar(3), text("011"), api.CStringSize},
		{bits("0110"), vary(tchar(5)), text("0110"), 0},
		{bits(""), tchar(2), text("  "), 0},
		{bits(all), tchar(250), text(all), 0},
		{chars("ab"), tchar(4), text("ab  "), 0},
		{chars("ab "), tchar(2), text("ab"), api.CStringSize},
		{chars("ab "), vary(tchar(4)), text("ab "), 0},
		{typed{text("ab"), vary(tchar(7))}, tchar(3), text("ab "), 0},
		{bits("01"), tbit(4), digits("0100"), 0},
		{bits("010"), tbit(2), digits("01"), api.CStringSize},
		{bits("01"), vary(tbit(4)), digits("01"), 0},
	})
}

func TestBitsToNumbers(t *testing.T) {
	checkConverted(t, []converted{
		{bits("101"), tdec(1, 0), vdec(5, 0), 0},
		{bits("101"), tdec(5, 2), vdec(500, 2), 0},
		{bits("101"), tfloat(3), vfloat(5, 0), 0},
		{bits("1010"), tfloat(3), vfloat(1, 1), 0},
		{bits("101"), tbin(3, 0), vbin(5, 0), 0},
		{bits("101"), tbin(2, 0), vbin(1, 0), api.CSize},
		{bits(""), tdec(1, 0), vdec(0, 0), 0},
		{bits("0000"), tfloat(1), vfloat(0, 0), 0},
		{bits(many("1", 31)), tbin(31, 0), vbin(mostBin, 0), 0},
		{bits(many("0", 219) + many("1", 31)), tdec(15, 0), vdec(mostBin, 0), 0},
		{bits("1" + many("0", 31)), tdec(15, 0), vdec(0, 0), api.CSize},
		{bits("01" + many("0", 28) + "101"), tdec(15, 0), vdec(5, 0), api.CSize},
		{bits(many("1", 250)), tdec(15, 0), vdec(mostBin, 0), api.CSize},
		// The first condition is told, and the number is fitted all the same.
		{bits(many("1", 32)), tdec(3, 0), vdec(647, 0), api.CSize},
		{bits(many("1", 32)), tfloat(3), vfloat(215, 7), api.CSize},
		{typed{digits("11"), vary(tbit(9))}, tdec(1, 0), vdec(3, 0), 0},
	})
}

// wrong is a conversion of characters that can't be converted.
type wrong struct {
	v    typed
	to   api.Type
	want api.Value
	at   int
}

func checkWrong(t *testing.T, l []wrong) {
	t.Helper()
	for _, x := range l {
		w, r, e := conv.Convert(x.v.Value, x.v.of, x.to)
		raise := api.Raise{Cond: api.CConversion, Source: x.v.S, At: x.at}
		if w != x.want || r != raise || e != api.OK {
			t.Errorf("Convert(%+v, %+v) = %+v, %+v, %d; want %+v at %d", x.v, x.to, w, r, e, x.want, x.at)
		}
	}
}

// The type's zero is taken, and nothing that might be right ahead of the place.
func TestConversions(t *testing.T) {
	checkWrong(t, []wrong{
		{chars("1.2X"), tdec(3, 1), vdec(0, 1), 3}, // the chapter's example
		{chars("1X"), tdec(3, 1), vdec(0, 1), 1},
		{chars("X"), tbin(3, 2), vbin(0, 2), 0},
		{chars("  12 3 "), tfloat(4), vfloat(0, 0), 5},
		{chars("1E"), tdec(1, 0), vdec(0, 0), 2},
		{chars("99999X"), tdec(1, 0), vdec(0, 0), 5},
		{chars("1111111111111111"), tdec(1, 0), vdec(0, 0), 15},
		{chars("1E76"), tdec(1, 0), vdec(0, 0), 1},
		{typed{text("12 X"), vary(tchar(250))}, tdec(2, 0), vdec(0, 0), 3},
		{chars("012"), tbit(3), digits("000"), 2},
		{chars("012"), tbit(1), digits("0"), 2},
		{chars("112"), vary(tbit(3)), digits(""), 2},
		{chars(" 1"), tbit(3), digits("000"), 0},
		{chars("1 "), tbit(3), digits("000"), 1},
		{chars("/1"), tbit(3), digits("000"), 0},
		{chars("1B"), tbit(0), digits(""), 1},
		{chars(many("01", 124) + "0x"), tbit(250), digits(many("0", 250)), 249},
	})
}

func TestField(t *testing.T) {
	for _, x := range []struct {
		v    typed
		want string
	}{
		{dec(1250, 5, 2), "   12.50"},
		{dec(-1250, 5, 2), "  -12.50"},
		{dec(-99999, 5, 2), " -999.99"},
		{dec(0, 5, 2), "    0.00"},
		{dec(5, 1, 0), "   5"},
		{dec(-5, 1, 0), "  -5"},
		{dec(9, 1, 1), " 0.9"},
		{dec(-9, 1, 1), "-0.9"},
		{dec(-9, 1, 3), "-0.009"},
		{dec(9, 2, 5), " 0.00009"},
		{dec(-mostDec, 15, 31), "-0." + many("0", 16) + many("9", 15)},
		{dec(mostDec, 15, 15), " 0." + many("9", 15)},
		{dec(-mostDec, 15, 0), "  -" + many("9", 15)},
		{dec(0, 15, 31), " 0." + many("0", 31)},
		// A binary type as decimal: P 15 is P 6, Q 1 is Q 1, Q 4 is Q 2.
		{bin(5, 15, 0), "        5"},
		{bin(-5, 15, 0), "       -5"},
		{bin(5, 3, 1), "  2.5"},
		{bin(-7, 3, 1), " -3.5"},
		{bin(13, 4, 4), "  0.81"},
		{bin(-13, 4, 4), " -0.81"},
		{bin(-1, 1, 31), "-0.0000000004"},
		{bin(mostBin, 31, 0), "    2147483647"},
		{bin(-mostBin, 31, 31), " -0.9999999995"},
		{bin(1, 1, 0), "    1"},
		{float(-125, 0, 4), "-1.250E+02"},
		{float(125, 0, 4), " 1.250E+02"},
		{float(125, 0, 3), " 1.25E+02"},
		{float(1, 0, 1), " 1.E+00"},
		{float(-1, -1, 1), "-1.E-01"},
		{float(0, 0, 1), " 0.E+00"},
		{float(0, 0, 3), " 0.00E+00"},
		{float(7, 0, 15), " 7." + many("0", 14) + "E+00"},
		{float(mostDec, 61, 15), " 9." + many("9", 14) + "E+75"},
		{float(-1, -75, 2), "-1.0E-75"},
		{float(12, 8, 2), " 1.2E+09"},
		{float(12, 9, 2), " 1.2E+10"},
		{float(12, -10, 2), " 1.2E-09"},
		{float(12, -11, 2), " 1.2E-10"},
	} {
		if got, e := conv.Field(x.v.Value, x.v.of); got != x.want || e != api.OK {
			t.Errorf("Field(%+v) = %q, %d; want %q", x.v, got, e, x.want)
		}
	}
}

func TestLength(t *testing.T) {
	for _, x := range []struct {
		of          api.Type
		bytes, bits int
	}{
		{tdec(5, 2), 8, 10}, {tdec(1, 0), 4, 4}, {tdec(1, 1), 4, 0}, {tdec(2, 5), 8, 0}, {tdec(5, 31), 34, 0}, {tdec(2, 0), 5, 7}, {tdec(3, 0), 6, 10}, {tdec(4, 3), 7, 4}, {tdec(9, 0), 12, 30}, {tdec(10, 0), 13, 31}, {tdec(15, 0), 18, 31}, {tdec(15, 5), 18, 31}, {tdec(15, 6), 18, 30}, {tdec(15, 31), 34, 0},
		{tbin(15, 0), 9, 15}, {tbin(31, 0), 14, 31}, {tbin(31, 1), 14, 30}, {tbin(1, 0), 5, 1}, {tbin(1, 1), 5, 0}, {tbin(4, 9), 6, 0}, {tbin(1, 31), 13, 0}, {tbin(5, 4), 6, 1}, {tbin(10, 3), 7, 7},
		{tfloat(1), 7, 4}, {tfloat(2), 8, 7}, {tfloat(9), 15, 30}, {tfloat(10), 16, 31}, {tfloat(15), 21, 31},
		{tchar(0), 0, 0}, {tchar(7), 7, 7}, {vary(tchar(250)), 250, 250},
		{tbit(0), 0, 0}, {tbit(9), 9, 9}, {vary(tbit(250)), 250, 250},
	} {
		for _, to := range []struct {
			types []api.Type
			want  int
		}{
			{[]api.Type{tchar(0), tchar(9), vary(tchar(3))}, x.bytes},
			{[]api.Type{tbit(0), tbit(9), vary(tbit(3))}, x.bits},
		} {
			for _, as := range to.types {
				if got, e := conv.Length(x.of, as); got != to.want || e != api.OK {
					t.Errorf("Length(%+v, %+v) = %d, %d; want %d", x.of, as, got, e, to.want)
				}
			}
		}
	}
}

func TestTruth(t *testing.T) {
	for _, x := range []struct {
		s    string
		want bool
	}{
		{"", false}, {"0", false}, {"1", true}, {"00", false}, {"01", true}, {"10", true}, {"0010", true}, {many("0", 250), false}, {many("0", 249) + "1", true}, {many("1", 250), true},
	} {
		if got, e := conv.Truth(digits(x.s)); got != x.want || e != api.OK {
			t.Errorf("Truth(%q) = %v, %d", x.s, got, e)
		}
	}
}

func TestAgain(t *testing.T) {
	right := api.Raise{Cond: api.CConversion, Source: "1X", At: 1}
	for _, x := range []struct {
		source string
		to     api.Type
		want   api.Value
		raise  api.Raise
	}{
		{"10", tdec(2, 0), vdec(10, 0), api.Raise{}},
		{"1X", tdec(2, 0), vdec(0, 0), right},
		{"10X", tdec(2, 0), vdec(0, 0), api.Raise{Cond: api.CConversion, Source: "10X", At: 2}},
		{"123", tdec(2, 0), vdec(23, 0), api.Raise{Cond: api.CSize}},
		{"", tdec(2, 1), vdec(0, 1), api.Raise{}},
		{"9.9E75", tfloat(1), vfloat(0, 0), api.Raise{Cond: api.COverflow}},
		{"011", tbit(3), digits("011"), api.Raise{}},
		{"011", tbit(2), digits("01"), api.Raise{Cond: api.CStringSize}},
		{"0 1", tbit(2), digits("00"), api.Raise{Cond: api.CConversion, Source: "0 1", At: 1}},
		{"a b", tchar(4), text("a b "), api.Raise{}},
		{"a b", vary(tchar(2)), text("a "), api.Raise{Cond: api.CStringSize}},
		{many(" ", 249) + "7", tbin(3, 0), vbin(7, 0), api.Raise{}},
	} {
		// All that counts of the Raise is its condition.
		for _, r := range []api.Raise{right, {Cond: api.CConversion}, {Cond: api.CConversion, Name: "F", Code: 9, Source: many("x", 300), At: -1}} {
			if w, again, e := conv.Again(r, x.source, x.to); w != x.want || again != x.raise || e != api.OK {
				t.Errorf("Again(%+v, %q, %+v) = %+v, %+v, %d; want %+v, %+v", r, x.source, x.to, w, again, e, x.want, x.raise)
			}
		}
	}
}
