package built_test

import (
	"testing"

	"ironbark/api"
)

func TestMagnitudesAndSigns(t *testing.T) {
	checkCalls(t, []call{
		{"ABS", args(dec(-125, 3, 2)), tdec(3, 2), vdec(125, 2), cond(0)},
		{"ABS", args(dec(125, 3, 2)), tdec(3, 2), vdec(125, 2), cond(0)},
		{"ABS", args(dec(0, 3, 2)), tdec(3, 2), vdec(0, 2), cond(0)},
		{"ABS", args(bin(-mostBin, 31, 5)), tbin(31, 5), vbin(mostBin, 5), cond(0)},
		{"ABS", args(float(-125, 60, 3)), tfloat(3), vfloat(125, 60), cond(0)},
		{"ABS", args(chars("-12")), tdec(15, 0), vdec(12, 0), cond(0)},
		{"ABS", args(chars("-12.9")), tdec(15, 0), vdec(12, 0), cond(0)}, // a string counts as FIXED DEC(15,0)
		{"ABS", args(bits("101")), tbin(31, 0), vbin(5, 0), cond(0)},
		{"ABS", args(chars("")), tdec(15, 0), vdec(0, 0), cond(0)},
		{"SIGN", args(dec(-125, 3, 2)), tbin(31, 0), vbin(-1, 0), cond(0)},
		{"SIGN", args(dec(0, 3, 2)), tbin(31, 0), vbin(0, 0), cond(0)},
		{"SIGN", args(float(1, -75, 2)), tbin(31, 0), vbin(1, 0), cond(0)},
		{"SIGN", args(chars(" -1E5 ")), tbin(31, 0), vbin(-1, 0), cond(0)},
		{"SIGN", args(chars("-.9")), tbin(31, 0), vbin(0, 0), cond(0)},
		{"SIGN", args(bits("0001")), tbin(31, 0), vbin(1, 0), cond(0)},
	})
	checkTold(t,
		told{"ABS", args(dec(-125, 3, 2)), tdec(2, 1), vdec(12, 1), cond(0)},
		told{"ABS", args(chars("-12.9")), tdec(3, 1), vdec(120, 1), cond(0)}, // FIXED DEC(15,0) ahead of the type
		told{"ABS", args(chars("-1E16")), tdec(3, 1), vdec(0, 1), cond(api.CSize)},
		told{"ABS", args(dec(-125, 3, 2)), tdec(2, 2), vdec(25, 2), cond(api.CSize)},
		told{"ABS", args(bin(-9, 4, 0)), tbin(3, 0), vbin(1, 0), cond(api.CSize)},
		told{"ABS", args(float(-125, 0, 3)), tfloat(2), vfloat(13, 1), cond(0)},
		told{"ABS", args(float(-996, 73, 3)), tfloat(2), vfloat(0, 0), cond(api.COverflow)},
		told{"SIGN", args(dec(-5, 1, 0)), tbin(1, 0), vbin(-1, 0), cond(0)},
		told{"SIGN", args(dec(-5, 1, 0)), tbin(3, 2), vbin(-4, 2), cond(0)},
		told{"SIGN", args(dec(5, 1, 0)), tbin(2, 2), vbin(0, 2), cond(api.CSize)},
	)
}

// wholes is what FLOOR, CEIL and TRUNC tell of a number.
type wholes struct {
	arg                typed
	of                 api.Type
	floor, ceil, trunc api.Value
}

func TestWholeParts(t *testing.T) {
	for _, x := range []wholes{
		{dec(-15, 2, 1), tdec(2, 0), vdec(-2, 0), vdec(-1, 0), vdec(-1, 0)},
		{dec(15, 2, 1), tdec(2, 0), vdec(1, 0), vdec(2, 0), vdec(1, 0)},
		{dec(-20, 2, 1), tdec(2, 0), vdec(-2, 0), vdec(-2, 0), vdec(-2, 0)},
		{dec(20, 2, 1), tdec(2, 0), vdec(2, 0), vdec(2, 0), vdec(2, 0)},
		{dec(0, 2, 1), tdec(2, 0), vdec(0, 0), vdec(0, 0), vdec(0, 0)},
		{dec(1, 2, 1), tdec(2, 0), vdec(0, 0), vdec(1, 0), vdec(0, 0)},
		{dec(-1, 2, 1), tdec(2, 0), vdec(-1, 0), vdec(0, 0), vdec(0, 0)},
		{dec(99, 2, 1), tdec(2, 0), vdec(9, 0), vdec(10, 0), vdec(9, 0)},
		{dec(-99, 2, 1), tdec(2, 0), vdec(-10, 0), vdec(-9, 0), vdec(-9, 0)},
		{dec(-9, 1, 31), tdec(1, 0), vdec(-1, 0), vdec(0, 0), vdec(0, 0)},
		{dec(mostDec, 15, 0), tdec(15, 0), vdec(mostDec, 0), vdec(mostDec, 0), vdec(mostDec, 0)},
		{dec(-mostDec, 15, 1), tdec(15, 0), vdec(-100000000000000, 0), vdec(-99999999999999, 0), vdec(-99999999999999, 0)},
		{bin(11, 4, 1), tbin(4, 0), vbin(5, 0), vbin(6, 0), vbin(5, 0)},
		{bin(-15, 4, 1), tbin(4, 0), vbin(-8, 0), vbin(-7, 0), vbin(-7, 0)},
		{bin(-12, 4, 2), tbin(3, 0), vbin(-3, 0), vbin(-3, 0), vbin(-3, 0)},
		{bin(mostBin, 31, 31), tbin(1, 0), vbin(0, 0), vbin(1, 0), vbin(0, 0)},
		{bin(-mostBin, 31, 1), tbin(31, 0), vbin(-(1 << 30), 0), vbin(-(1<<30 - 1), 0), vbin(-(1<<30 - 1), 0)},
		{float(-15, -1, 2), tfloat(2), vfloat(-2, 0), vfloat(-1, 0), vfloat(-1, 0)},
		{float(995, -1, 3), tfloat(3), vfloat(99, 0), vfloat(1, 2), vfloat(99, 0)},
		{float(1, -75, 1), tfloat(1), vfloat(0, 0), vfloat(1, 0), vfloat(0, 0)},
		{float(-1, -75, 1), tfloat(1), vfloat(-1, 0), vfloat(0, 0), vfloat(0, 0)},
		{float(-1, 75, 1), tfloat(1), vfloat(-1, 75), vfloat(-1, 75), vfloat(-1, 75)},
		{float(mostDec, 61, 15), tfloat(15), vfloat(mostDec, 61), vfloat(mostDec, 61), vfloat(mostDec, 61)},
		{float(1, 15, 1), tfloat(1), vfloat(1, 15), vfloat(1, 15), vfloat(1, 15)},
		{float(mostDec, -1, 15), tfloat(15), vfloat(99999999999999, 0), vfloat(1, 14), vfloat(99999999999999, 0)},
		{chars("-1.5"), tdec(15, 0), vdec(-1, 0), vdec(-1, 0), vdec(-1, 0)}, // -1, as a string counts
		{bits("11"), tbin(31, 0), vbin(3, 0), vbin(3, 0), vbin(3, 0)},
	} {
		checkCalls(t, []call{
			{"FLOOR", args(x.arg), x.of, x.floor, cond(0)},
			{"CEIL", args(x.arg), x.of, x.ceil, cond(0)},
			{"TRUNC", args(x.arg), x.of, x.trunc, cond(0)},
		})
	}
	checkTold(t,
		told{"FLOOR", args(dec(-15, 2, 1)), tdec(4, 2), vdec(-200, 2), cond(0)},
		told{"FLOOR", args(dec(-1995, 4, 1)), tdec(2, 0), vdec(0, 0), cond(api.CSize)},
		told{"CEIL", args(dec(20, 2, 1)), tdec(1, 1), vdec(0, 1), cond(api.CSize)},
		told{"TRUNC", args(bin(63, 6, 2)), tbin(3, 0), vbin(7, 0), cond(api.CSize)},
		// A float is rounded where its digits are more.
		told{"FLOOR", args(float(-12345, -1, 5)), tfloat(2), vfloat(-12, 2), cond(0)},
		told{"CEIL", args(float(12545, -1, 5)), tfloat(2), vfloat(13, 2), cond(0)},
		told{"TRUNC", args(float(12345, 0, 5)), tfloat(3), vfloat(123, 2), cond(0)},
		told{"TRUNC", args(float(12399, -1, 5)), tfloat(3), vfloat(124, 1), cond(0)},
		told{"TRUNC", args(float(999, 73, 3)), tfloat(2), vfloat(0, 0), cond(api.COverflow)},
	)
}

func TestRound(t *testing.T) {
	checkCalls(t, []call{
		{"ROUND", args(dec(125, 3, 2), whole(2)), tdec(4, 2), vdec(125, 2), cond(0)},
		{"ROUND", args(dec(125, 3, 2), whole(5)), tdec(7, 5), vdec(125000, 5), cond(0)},
		{"ROUND", args(dec(-125, 3, 2), whole(1)), tdec(3, 1), vdec(-13, 1), cond(0)},
		{"ROUND", args(dec(-124, 3, 2), whole(1)), tdec(3, 1), vdec(-12, 1), cond(0)},
		{"ROUND", args(dec(999, 3, 2), whole(0)), tdec(2, 0), vdec(10, 0), cond(0)},
		{"ROUND", args(dec(5, 1, 4), whole(3)), tdec(1, 3), vdec(1, 3), cond(0)},
		{"ROUND", args(dec(9, 1, 4), whole(1)), tdec(1, 1), vdec(0, 1), cond(0)},
		{"ROUND", args(dec(mostDec, 15, 0), whole(1)), tdec(15, 1), vdec(999999999999990, 1), cond(api.CSize)},
		{"ROUND", args(bin(11, 4, 2), whole(1)), tbin(4, 1), vbin(6, 1), cond(0)},
		{"ROUND", args(bin(-11, 4, 2), whole(0)), tbin(3, 0), vbin(-3, 0), cond(0)},
		{"ROUND", args(float(12345, 0, 5), whole(4)), tfloat(4), vfloat(1235, 1), cond(0)},
		{"ROUND", args(float(-12345, 0, 5), whole(1)), tfloat(1), vfloat(-1, 4), cond(0)},
		{"ROUND", args(float(12345, 0, 5), whole(15)), tfloat(15), vfloat(12345, 0), cond(0)},
		{"ROUND", args(float(999, 73, 3), whole(2)), tfloat(2), vfloat(0, 0), cond(api.COverflow)},
		{"ROUND", args(chars("12.5"), whole(0)), tdec(15, 0), vdec(12, 0), cond(0)},
		{"ROUND", args(bits("11"), whole(2)), tbin(31, 2), vbin(12, 2), cond(0)},
		{"ROUND", args(dec(125, 3, 2), chars(" 1.9")), tdec(3, 1), vdec(13, 1), cond(0)},
	})
	// The digits are the type's, whatever n is.
	checkTold(t,
		told{"ROUND", args(dec(125, 3, 2), whole(2)), tdec(3, 1), vdec(13, 1), cond(0)},
		told{"ROUND", args(dec(125, 3, 2), whole(-9)), tdec(3, 1), vdec(13, 1), cond(0)},
		told{"ROUND", args(dec(125, 3, 2), whole(99)), tdec(1, 1), vdec(3, 1), cond(api.CSize)},
		told{"ROUND", args(float(125, 0, 3), whole(0)), tfloat(2), vfloat(13, 1), cond(0)},
		told{"ROUND", args(float(125, 0, 3), whole(3)), tfloat(1), vfloat(1, 2), cond(0)},
	)
}

func TestModulo(t *testing.T) {
	checkCalls(t, []call{
		{"MOD", args(whole(7), whole(3)), tdec(15, 0), vdec(1, 0), cond(0)},
		{"MOD", args(whole(7), whole(-3)), tdec(15, 0), vdec(-2, 0), cond(0)},
		{"MOD", args(whole(-7), whole(-3)), tdec(15, 0), vdec(-1, 0), cond(0)},
		{"MOD", args(whole(-6), whole(3)), tdec(15, 0), vdec(0, 0), cond(0)},
		{"MOD", args(dec(-75, 2, 1), dec(2, 1, 0)), tdec(2, 1), vdec(5, 1), cond(0)},
		{"MOD", args(dec(75, 2, 1), dec(13, 2, 2)), tdec(3, 2), vdec(9, 2), cond(0)}, // 7.5 - 57 * 0.13
		{"MOD", args(bin(-7, 3, 0), bin(3, 2, 0)), tbin(3, 0), vbin(2, 0), cond(0)},
		{"MOD", args(dec(7, 1, 0), bin(5, 3, 1)), tbin(6, 1), vbin(4, 1), cond(0)},
		{"MOD", args(dec(13, 2, 1), bin(1, 1, 0)), tbin(8, 4), vbin(4, 4), cond(0)}, // 0.3 cut to 4 bits
		{"MOD", args(float(-7, 0, 1), float(3, 0, 1)), tfloat(1), vfloat(2, 0), cond(0)},
		{"MOD", args(float(1, 75, 1), float(7, 0, 1)), tfloat(1), vfloat(6, 0), cond(0)},
		{"MOD", args(float(-1, -75, 1), float(1, 0, 1)), tfloat(1), vfloat(1, 0), cond(0)},
		{"MOD", args(chars("-7"), chars("3")), tdec(15, 0), vdec(2, 0), cond(0)},
		{"MOD", args(bits("111"), whole(4)), tbin(31, 0), vbin(3, 0), cond(0)},
		{"MOD", args(whole(7), whole(0)), tdec(15, 0), vdec(0, 0), cond(api.CZeroDivide)},
		{"MOD", args(dec(7, 2, 2), dec(0, 1, 0)), tdec(3, 2), vdec(0, 2), cond(api.CZeroDivide)},
		{"MOD", args(whole(0), float(0, 0, 1)), tfloat(15), vfloat(0, 0), cond(api.CZeroDivide)},
		{"MOD", args(dec(-1, 15, 15), dec(mostDec, 15, 0)), tdec(15, 15), vdec(999999999999999, 15), cond(api.CSize)},
	})
	checkTold(t,
		told{"MOD", args(whole(75), whole(40)), tdec(1, 0), vdec(5, 0), cond(api.CSize)},
		told{"MOD", args(whole(75), whole(0)), tdec(2, 1), vdec(0, 1), cond(api.CZeroDivide)},
	)
}

func TestExtremes(t *testing.T) {
	twenty := args()
	for n := range 20 {
		twenty = append(twenty, dec((n*7+3)%20-10, 2, 0))
	}
	checkCalls(t, []call{
		{"MAX", args(dec(15, 2, 1), dec(2, 1, 0)), tdec(2, 1), vdec(20, 1), cond(0)},
		{"MIN", args(dec(15, 2, 1), dec(2, 1, 0)), tdec(2, 1), vdec(15, 1), cond(0)},
		{"MAX", args(dec(-15, 2, 1), dec(-2, 1, 0)), tdec(2, 1), vdec(-15, 1), cond(0)},
		{"MIN", args(dec(-15, 2, 1), dec(-2, 1, 0)), tdec(2, 1), vdec(-20, 1), cond(0)},
		{"MAX", args(dec(1, 1, 0)), tdec(1, 0), vdec(1, 0), cond(0)},
		{"MIN", args(chars("12")), tdec(15, 0), vdec(12, 0), cond(0)},
		{"MAX", twenty, tdec(2, 0), vdec(9, 0), cond(0)},
		{"MIN", twenty, tdec(2, 0), vdec(-10, 0), cond(0)},
		{"MAX", args(dec(3, 1, 1), bin(1, 2, 2), float(29, -2, 2)), tfloat(2), vfloat(3, -1), cond(0)},
		{"MIN", args(dec(3, 1, 1), bin(1, 2, 2), float(29, -2, 2)), tfloat(2), vfloat(25, -2), cond(0)},
		{"MAX", args(dec(3, 1, 1), bin(1, 2, 2)), tbin(5, 4), vbin(4, 4), cond(0)}, // 0.3 is greater, and 0.25 with 4 bits
		{"MAX", args(chars("7"), bits("1000")), tbin(31, 0), vbin(8, 0), cond(0)},
		{"MIN", args(chars(" "), bits("1000")), tbin(31, 0), vbin(0, 0), cond(0)},
		{"MAX", args(dec(mostDec, 15, 0), dec(0, 15, 1)), tdec(15, 1), vdec(999999999999990, 1), cond(api.CSize)},
		{"MIN", args(dec(mostDec, 15, 0), dec(0, 15, 1)), tdec(15, 1), vdec(0, 1), cond(0)},
		{"MAX", args(dec(-3, 1, 0), dec(-2, 1, 0), dec(-4, 1, 0)), tdec(1, 0), vdec(-2, 0), cond(0)},
	})
	checkTold(t,
		told{"MAX", args(dec(123, 3, 0), dec(45, 2, 0)), tdec(2, 0), vdec(23, 0), cond(api.CSize)},
		told{"MIN", args(dec(123, 3, 0), dec(45, 2, 0)), tdec(2, 0), vdec(45, 0), cond(0)},
		told{"MAX", args(float(123, 0, 3), dec(45, 2, 0)), tfloat(1), vfloat(1, 2), cond(0)},
	)
}

func TestReckoned(t *testing.T) {
	checkCalls(t, []call{
		{"ADD", args(dec(15, 2, 1), dec(2, 1, 0), whole(4), whole(2)), tdec(4, 2), vdec(350, 2), cond(0)},
		{"ADD", args(dec(15, 2, 1), dec(2, 1, 0), whole(4)), tdec(4, 0), vdec(3, 0), cond(0)},
		{"ADD", args(dec(95, 2, 1), dec(2, 1, 0), whole(1)), tdec(1, 0), vdec(1, 0), cond(api.CFixedOverflow)},
		{"ADD", args(float(95, 0, 2), dec(2, 1, 0), whole(1), whole(99)), tfloat(1), vfloat(1, 2), cond(0)},
		{"ADD", args(float(9, 75, 1), float(9, 75, 1), whole(2)), tfloat(2), vfloat(0, 0), cond(api.COverflow)},
		{"ADD", args(chars("12"), chars("-2"), whole(4), chars("1")), tdec(4, 1), vdec(100, 1), cond(0)},
		{"SUBTRACT", args(dec(15, 2, 1), dec(2, 1, 0), whole(4), whole(2)), tdec(4, 2), vdec(-50, 2), cond(0)},
		{"SUBTRACT", args(bin(5, 3, 0), bits("11"), whole(4)), tbin(4, 0), vbin(2, 0), cond(0)},
		{"SUBTRACT", args(bin(-5, 3, 0), bits("11"), whole(3)), tbin(3, 0), vbin(0, 0), cond(api.CFixedOverflow)},
		{"SUBTRACT", args(float(11, -75, 2), float(1, -74, 1), whole(2)), tfloat(2), vfloat(1, -75), cond(0)},
		{"MULTIPLY", args(dec(15, 2, 1), dec(-25, 2, 1), whole(4), whole(2)), tdec(4, 2), vdec(-375, 2), cond(0)},
		{"MULTIPLY", args(dec(15, 2, 1), dec(-25, 2, 1), whole(4), whole(1)), tdec(4, 1), vdec(-37, 1), cond(0)},
		{"MULTIPLY", args(dec(15, 2, 1), bin(5, 3, 1), whole(9), whole(2)), tbin(9, 2), vbin(15, 2), cond(0)},
		{"MULTIPLY", args(float(1, -40, 1), float(1, -40, 1), whole(9)), tfloat(9), vfloat(0, 0), cond(api.CUnderflow)},
		{"MULTIPLY", args(dec(99, 2, 0), dec(99, 2, 0), whole(3)), tdec(3, 0), vdec(801, 0), cond(api.CFixedOverflow)},
		{"DIVIDE", args(dec(1, 1, 0), dec(3, 1, 0), whole(5), whole(4)), tdec(5, 4), vdec(3333, 4), cond(0)},
		{"DIVIDE", args(dec(-2, 1, 0), dec(3, 1, 0), whole(5), whole(4)), tdec(5, 4), vdec(-6666, 4), cond(0)},
		{"DIVIDE", args(float(2, 0, 1), dec(3, 1, 0), whole(5), whole(4)), tfloat(5), vfloat(66667, -5), cond(0)},
		{"DIVIDE", args(dec(1, 1, 0), dec(0, 1, 0), whole(5), whole(2)), tdec(5, 2), vdec(0, 2), cond(api.CZeroDivide)},
		{"DIVIDE", args(float(0, 0, 1), bits(""), whole(5)), tfloat(5), vfloat(0, 0), cond(api.CZeroDivide)},
		{"DIVIDE", args(dec(1, 1, 0), dec(1, 1, 9), whole(5)), tdec(5, 0), vdec(0, 0), cond(api.CFixedOverflow)},
	})
	// The type that is told counts, not p and q.
	checkTold(t,
		told{"ADD", args(dec(15, 2, 1), dec(2, 1, 0), whole(99), whole(-7)), tdec(4, 1), vdec(35, 1), cond(0)},
		told{"DIVIDE", args(dec(1, 1, 0), dec(3, 1, 0), whole(0)), tdec(3, 2), vdec(33, 2), cond(0)},
	)
}

func TestInABase(t *testing.T) {
	checkCalls(t, []call{
		{"FIXED", args(dec(125, 3, 2)), tdec(3, 2), vdec(125, 2), cond(0)},
		{"FIXED", args(dec(125, 3, 2), whole(2)), tdec(2, 0), vdec(1, 0), cond(0)},
		{"FIXED", args(dec(125, 3, 2), whole(2), whole(1)), tdec(2, 1), vdec(12, 1), cond(0)},
		{"FIXED", args(dec(125, 3, 2), whole(1), whole(1)), tdec(1, 1), vdec(2, 1), cond(api.CSize)},
		{"FIXED", args(bin(5, 3, 1), whole(2), whole(1)), tbin(2, 1), vbin(1, 1), cond(api.CSize)},
		{"FIXED", args(float(1255, -1, 4)), tdec(4, 0), vdec(125, 0), cond(0)},
		{"FIXED", args(float(1255, 0, 4), whole(3)), tdec(3, 0), vdec(255, 0), cond(api.CSize)},
		{"FIXED", args(chars("12.5"), whole(3), whole(1)), tdec(3, 1), vdec(120, 1), cond(0)}, // a string counts as FIXED DEC(15,0)
		{"FIXED", args(bits("101"), whole(3), whole(0)), tbin(3, 0), vbin(5, 0), cond(0)},
		{"BINARY", args(dec(125, 3, 2)), tbin(11, 7), vbin(160, 7), cond(0)},
		{"BINARY", args(dec(125, 3, 2), whole(3), whole(1)), tbin(3, 1), vbin(2, 1), cond(0)},
		{"BINARY", args(dec(mostDec, 15, 0)), tbin(31, 0), vbin(616988671, 0), cond(api.CSize)},
		{"BINARY", args(float(125, -2, 3)), tbin(11, 0), vbin(1, 0), cond(0)},
		{"DECIMAL", args(bin(5, 3, 1)), tdec(2, 1), vdec(25, 1), cond(0)},
		{"DECIMAL", args(bin(5, 3, 1), whole(1)), tdec(1, 0), vdec(2, 0), cond(0)},
		{"DECIMAL", args(bits("1111")), tdec(11, 0), vdec(15, 0), cond(0)},
		{"DECIMAL", args(chars("12E3")), tdec(15, 0), vdec(12000, 0), cond(0)},
		{"DECIMAL", args(float(125, 9, 3), whole(15), whole(3)), tdec(15, 3), vdec(125000000000000, 3), cond(0)},
		{"DECIMAL", args(float(125, 10, 3), whole(15), whole(3)), tdec(15, 3), vdec(250000000000000, 3), cond(api.CSize)},
		{"FLOAT", args(dec(125, 3, 2)), tfloat(3), vfloat(125, -2), cond(0)},
		{"FLOAT", args(dec(125, 3, 2), whole(2)), tfloat(2), vfloat(13, -1), cond(0)},
		{"FLOAT", args(bin(5, 3, 1)), tfloat(1), vfloat(3, 0), cond(0)},
		{"FLOAT", args(float(999, 73, 3), whole(2)), tfloat(2), vfloat(0, 0), cond(api.COverflow)},
		{"FLOAT", args(chars("-0.5")), tfloat(15), vfloat(0, 0), cond(0)},
	})
	checkTold(t,
		told{"FIXED", args(dec(125, 3, 2), whole(99), whole(99)), tdec(2, 1), vdec(12, 1), cond(0)},
		told{"BINARY", args(dec(125, 3, 2), whole(-1)), tbin(3, 2), vbin(5, 2), cond(0)},
		told{"DECIMAL", args(bin(5, 3, 1)), tdec(1, 1), vdec(5, 1), cond(api.CSize)},
		told{"FLOAT", args(dec(125, 3, 2)), tfloat(1), vfloat(1, 0), cond(0)},
	)
}
