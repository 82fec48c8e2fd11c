package built_test

import (
	"testing"

	"ironbark/api"
)

// An argument that is a number: what it counts as, with the condition of that.
func TestConditionsOfNumbers(t *testing.T) {
	fifteen := tdec(15, 0)
	checkCalls(t, []call{
		{"ABS", args(chars("1X")), fifteen, vdec(0, 0), wrong("1X", 1)},
		{"ABS", args(upTo(9, chars("-"))), fifteen, vdec(0, 0), wrong("-", 1)},
		{"ABS", args(chars("1E20")), fifteen, vdec(0, 0), cond(api.CSize)},
		{"ABS", args(chars("-123456E12")), fifteen, vdec(456000000000000, 0), cond(api.CSize)},
		{"ABS", args(bits("1" + many("0", 30) + "1")), tbin(31, 0), vbin(1, 0), cond(api.CSize)},
		{"SIGN", args(chars("?")), tbin(31, 0), vbin(0, 0), wrong("?", 0)},
		{"FLOOR", args(chars("1 1")), fifteen, vdec(0, 0), wrong("1 1", 2)},
		{"CEIL", args(chars("1B1")), fifteen, vdec(0, 0), wrong("1B1", 2)},
		{"TRUNC", args(chars("..")), fifteen, vdec(0, 0), wrong("..", 1)},
		{"ROUND", args(chars("A"), whole(0)), fifteen, vdec(0, 0), wrong("A", 0)},
		{"MOD", args(chars("A"), whole(2)), fifteen, vdec(0, 0), wrong("A", 0)},
		{"MOD", args(whole(2), chars("3A")), fifteen, vdec(0, 0), wrong("3A", 1)}, // ahead of ZERODIVIDE
		{"MAX", args(whole(-2), chars("3A")), fifteen, vdec(0, 0), wrong("3A", 1)},
		{"MAX", args(whole(2), chars("3A")), fifteen, vdec(2, 0), wrong("3A", 1)},
		{"MIN", args(whole(2), chars("3A"), chars("B"), whole(-7)), fifteen, vdec(-7, 0), wrong("3A", 1)},
		{"ADD", args(chars("A"), chars("12"), whole(4)), tdec(4, 0), vdec(12, 0), wrong("A", 0)},
		{"DIVIDE", args(chars("7"), chars("B"), whole(4)), tdec(4, 0), vdec(0, 0), wrong("B", 0)},
		{"FIXED", args(chars("1X"), whole(3)), tdec(3, 0), vdec(0, 0), wrong("1X", 1)},
		{"BINARY", args(chars("1X")), tbin(31, 0), vbin(0, 0), wrong("1X", 1)},
		{"DECIMAL", args(bits(many("1", 32))), tdec(11, 0), vdec(mostBin, 0), cond(api.CSize)},
		{"FLOAT", args(chars("1E20")), tfloat(15), vfloat(0, 0), cond(api.CSize)}, // counted as FIXED DEC(15,0) first
	})
}

// A p, q or n: what it counts as, with the condition of that.
func TestConditionsOfCounts(t *testing.T) {
	s, five := chars("ABCDE"), vary(tchar(5))
	checkCalls(t, []call{
		{"SUBSTR", args(s, dec(1<<31, 10, 0)), five, text("ABCDE"), cond(api.CSize)}, // 0 is taken
		{"SUBSTR", args(s, dec(1<<31+2, 10, 0)), five, text("BCDE"), cond(api.CSize)},
		{"SUBSTR", args(s, dec(-1<<31, 10, 0)), five, text("ABCDE"), cond(api.CSize)},
		{"SUBSTR", args(s, whole(mostBin)), five, text(""), cond(api.CStringRange)},
		{"SUBSTR", args(s, whole(2), dec(1<<31+2, 10, 0)), five, text("BC"), cond(api.CSize)},
		{"SUBSTR", args(s, chars("X")), five, text("ABCDE"), wrong("X", 0)},
		{"SUBSTR", args(s, chars("2"), chars("1X")), five, text(""), wrong("1X", 1)},
		{"SUBSTR", args(s, float(1, 75, 1)), five, text("ABCDE"), cond(api.CSize)},
		{"SUBSTR", args(s, bits("1"+many("0", 29)+"10")), five, text("BCDE"), cond(api.CSize)},
		{"REPEAT", args(chars("ab"), dec(1<<31+1, 10, 0)), vary(tchar(250)), text("abab"), cond(api.CSize)},
		{"REPEAT", args(chars("ab"), chars("1X")), vary(tchar(250)), text("ab"), wrong("1X", 1)},
		{"COPY", args(chars("ab"), dec(1<<31+1, 10, 0)), vary(tchar(250)), text("ab"), cond(api.CSize)},
		{"COPY", args(chars("ab"), chars("X")), vary(tchar(250)), text(""), wrong("X", 0)},
		{"COPY", args(chars("ab"), dec(1<<31+126, 10, 0)), vary(tchar(250)), text(many("ab", 125)), cond(api.CSize)},
		{"ROUND", args(dec(125, 3, 2), chars("X")), tdec(2, 0), vdec(1, 0), wrong("X", 0)},
		{"ROUND", args(dec(125, 3, 2), dec(1<<31+1, 10, 0)), tdec(3, 1), vdec(13, 1), cond(api.CSize)},
		{"ADD", args(whole(1), whole(2), dec(1<<31+3, 10, 0)), tdec(3, 0), vdec(3, 0), cond(api.CSize)},
		{"ADD", args(whole(1), whole(2), whole(3), chars("X")), tdec(3, 0), vdec(3, 0), wrong("X", 0)},
		{"ADD", args(float(1, 0, 1), whole(2), whole(3), chars("X")), tfloat(3), vfloat(3, 0), wrong("X", 0)},
		{"DIVIDE", args(whole(1), whole(0), whole(3), chars("X")), tdec(3, 0), vdec(0, 0), wrong("X", 0)}, // ahead of ZERODIVIDE
		{"FIXED", args(dec(12, 2, 0), dec(1<<31+1, 10, 0)), tdec(1, 0), vdec(2, 0), cond(api.CSize)},
		{"FIXED", args(dec(12, 2, 0), whole(3), chars("?")), tdec(3, 0), vdec(12, 0), wrong("?", 0)},
		{"FLOAT", args(dec(12, 2, 0), dec(1<<31+3, 10, 0)), tfloat(3), vfloat(12, 0), cond(api.CSize)},
		{"CHAR", args(dec(5, 1, 0), chars("X")), tchar(0), text(""), cond(api.CStringSize)}, // x is converted ahead of n
		{"CHAR", args(chars(""), chars("X")), tchar(0), text(""), wrong("X", 0)},
		{"CHAR", args(dec(5, 1, 0), dec(1<<31+5, 10, 0)), tchar(5), text("   5 "), cond(api.CSize)},
		{"BIT", args(chars("1A"), dec(1<<31+5, 10, 0)), tbit(5), digits("00000"), wrong("1A", 1)},
		{"BIT", args(chars("10"), dec(1<<31+5, 10, 0)), tbit(5), digits("10000"), cond(api.CSize)},
		{"HIGH", args(chars("X")), tchar(0), text(""), wrong("X", 0)},
		{"HIGH", args(dec(1<<31+5, 10, 0)), tchar(5), text("~~~~~"), cond(api.CSize)},
		{"LOW", args(dec(1<<31+5, 10, 0)), tchar(5), text("     "), cond(api.CSize)},
	})
	checkTold(t, told{"HIGH", args(dec(1<<31+251, 10, 0)), vary(tchar(250)), text(many("~", 250)), cond(api.CSize)})
}

// An argument that is bits.
func TestConditionsOfDigits(t *testing.T) {
	checkCalls(t, []call{
		{"BIT", args(chars("012")), tbit(3), digits("000"), wrong("012", 2)},
		{"BIT", args(upTo(5, chars("2"))), tbit(5), digits("00000"), wrong("2", 0)},
		{"BIT", args(float(9, 3, 1)), tbit(4), digits("1000"), cond(api.CSize)},
		{"BOOL", args(chars("0A"), bits("11"), bits("0111")), vary(tbit(2)), digits("11"), wrong("0A", 1)},
		{"BOOL", args(upTo(5, chars("0A")), bits("11"), bits("1000")), vary(tbit(5)), digits("00"), wrong("0A", 1)}, // nothing is taken
		{"BOOL", args(chars("0A"), bits("11"), bits("1000")), vary(tbit(2)), digits("00"), wrong("0A", 1)},
		{"BOOL", args(bits("11"), chars("A"), bits("0011")), vary(tbit(2)), digits("11"), wrong("A", 0)},
		{"BOOL", args(bits("11"), bits("01"), chars("01A1")), vary(tbit(2)), digits("00"), wrong("01A1", 2)},
		{"BOOL", args(float(9, 3, 1), bits(""), bits("0011")), vary(tbit(4)), digits("1000"), cond(api.CSize)}, // of 10001100101000
		{"BOOL", args(chars("A"), float(9, 3, 1), bits("01111")), vary(tbit(4)), digits("1000"), wrong("A", 0)},
		{"BOOL", args(bits("1"), float(9, 3, 1), chars("0111A")), vary(tbit(4)), digits("0000"), cond(api.CSize)}, // 0000 is taken
	})
}

// The first condition is told: that of the first argument that has one, then that of the function, then that of what is too long.
func TestFirstConditions(t *testing.T) {
	large := dec(1<<31+1, 10, 0)
	checkTold(t,
		told{"ADD", args(chars("A"), chars("B"), chars("C"), chars("D")), tdec(1, 0), vdec(0, 0), wrong("A", 0)},
		told{"ADD", args(whole(9), chars("B"), chars("C"), chars("D")), tdec(1, 0), vdec(9, 0), wrong("B", 0)},
		told{"ADD", args(whole(9), whole(9), chars("C"), chars("D")), tdec(1, 0), vdec(8, 0), wrong("C", 0)},
		told{"ADD", args(whole(9), whole(9), large, chars("D")), tdec(1, 0), vdec(8, 0), cond(api.CSize)},
		told{"ADD", args(whole(9), whole(9), whole(1), chars("D")), tdec(1, 0), vdec(8, 0), wrong("D", 0)},
		told{"ADD", args(whole(9), whole(9), whole(1), whole(0)), tdec(1, 0), vdec(8, 0), cond(api.CFixedOverflow)},
		told{"SUBSTR", args(chars("ABC"), chars("X"), chars("Y")), vary(tchar(0)), text(""), wrong("X", 0)},
		told{"SUBSTR", args(chars("ABC"), large, chars("Y")), vary(tchar(0)), text(""), cond(api.CSize)},
		told{"SUBSTR", args(chars("ABC"), whole(9), chars("Y")), vary(tchar(0)), text(""), wrong("Y", 0)},
		told{"SUBSTR", args(chars("ABC"), whole(3), whole(9)), vary(tchar(0)), text(""), cond(api.CStringRange)},
		told{"SUBSTR", args(chars("ABC"), whole(3), whole(1)), vary(tchar(0)), text(""), cond(api.CStringSize)},
		told{"MAX", args(bits(many("1", 32)), chars("X")), tbin(2, 0), vbin(3, 0), cond(api.CSize)},
		told{"MAX", args(chars("X"), bits(many("1", 32))), tbin(2, 0), vbin(3, 0), wrong("X", 0)},
		told{"ABS", args(chars("12345678901234567890")), tdec(1, 0), vdec(0, 0), wrong("12345678901234567890", 15)},
		told{"REPEAT", args(chars("ab"), chars("X")), vary(tchar(1)), text("a"), wrong("X", 0)},
		told{"ROUND", args(dec(125, 3, 2), chars("X")), tdec(1, 1), vdec(3, 1), wrong("X", 0)},
		told{"CHAR", args(dec(5, 1, 0), chars("X")), tchar(1), text(" "), cond(api.CStringSize)},
		told{"BIT", args(chars("X"), chars("Y")), tbit(1), digits("0"), wrong("X", 0)},
		told{"INDEX", args(chars("ABC"), chars("C")), tbin(1, 0), vbin(1, 0), cond(api.CSize)},
	)
}
