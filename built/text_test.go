package built_test

import (
	"testing"

	"ironbark/api"
)

func TestLengths(t *testing.T) {
	count := tbin(31, 0)
	checkCalls(t, []call{
		{"LENGTH", args(chars("ABC")), count, vbin(3, 0), cond(0)},
		{"LENGTH", args(chars("")), count, vbin(0, 0), cond(0)},
		{"LENGTH", args(chars(many(" ", 250))), count, vbin(250, 0), cond(0)},
		{"LENGTH", args(upTo(9, chars("ABC"))), count, vbin(3, 0), cond(0)},
		{"LENGTH", args(bits("0101")), count, vbin(4, 0), cond(0)},
		{"LENGTH", args(upTo(9, bits(""))), count, vbin(0, 0), cond(0)},
		{"LENGTH", args(dec(125, 5, 2)), count, vbin(8, 0), cond(0)},
		{"LENGTH", args(dec(1, 1, 31)), count, vbin(34, 0), cond(0)},
		{"LENGTH", args(bin(5, 3, 1)), count, vbin(5, 0), cond(0)},
		{"LENGTH", args(float(5, 3, 4)), count, vbin(10, 0), cond(0)},
	})
	checkTold(t,
		told{"LENGTH", args(chars("ABCDE")), tbin(2, 0), vbin(1, 0), cond(api.CSize)},
		told{"LENGTH", args(chars("ABCDE")), tbin(9, 3), vbin(40, 3), cond(0)},
	)
}

func TestParts(t *testing.T) {
	s, five := chars("ABCDE"), vary(tchar(5))
	checkCalls(t, []call{
		{"SUBSTR", args(s, whole(1)), five, text("ABCDE"), cond(0)},
		{"SUBSTR", args(s, whole(3)), five, text("CDE"), cond(0)},
		{"SUBSTR", args(s, whole(6)), five, text(""), cond(0)},
		{"SUBSTR", args(s, whole(7)), five, text(""), cond(api.CStringRange)},
		{"SUBSTR", args(s, whole(0)), five, text("ABCDE"), cond(api.CStringRange)},
		{"SUBSTR", args(s, whole(-9)), five, text("ABCDE"), cond(api.CStringRange)},
		{"SUBSTR", args(s, whole(1), whole(5)), five, text("ABCDE"), cond(0)},
		{"SUBSTR", args(s, whole(2), whole(0)), five, text(""), cond(0)},
		{"SUBSTR", args(s, whole(6), whole(0)), five, text(""), cond(0)},
		{"SUBSTR", args(s, whole(7), whole(0)), five, text(""), cond(api.CStringRange)},
		{"SUBSTR", args(s, whole(0), whole(0)), five, text(""), cond(api.CStringRange)},
		{"SUBSTR", args(s, whole(4), whole(3)), five, text("DE"), cond(api.CStringRange)},
		{"SUBSTR", args(s, whole(6), whole(1)), five, text(""), cond(api.CStringRange)},
		{"SUBSTR", args(s, whole(2), whole(-1)), five, text(""), cond(api.CStringRange)},
		{"SUBSTR", args(s, whole(-1), whole(4)), five, text("AB"), cond(api.CStringRange)},
		{"SUBSTR", args(s, whole(-1), whole(2)), five, text(""), cond(api.CStringRange)},
		{"SUBSTR", args(s, whole(-1), whole(99)), five, text("ABCDE"), cond(api.CStringRange)},
		{"SUBSTR", args(s, whole(0), whole(3)), five, text("AB"), cond(api.CStringRange)},
		{"SUBSTR", args(upTo(9, bits("0110")), dec(29, 2, 1), chars(" 2 ")), vary(tbit(9)), digits("11"), cond(0)},
		{"SUBSTR", args(dec(-125, 3, 2), whole(2), whole(4)), vary(tchar(6)), text("-1.2"), cond(0)}, // of ` -1.25`
		{"SUBSTR", args(chars(""), whole(1)), vary(tchar(0)), text(""), cond(0)},
		{"SUBSTR", args(chars(""), whole(1), whole(1)), vary(tchar(0)), text(""), cond(api.CStringRange)},
		{"SUBSTR", args(s, bits("11"), bits("10")), five, text("CD"), cond(0)},
	})
	checkTold(t,
		told{"SUBSTR", args(s, whole(2), whole(3)), tchar(5), text("BCD  "), cond(0)},
		told{"SUBSTR", args(s, whole(2), whole(3)), vary(tchar(2)), text("BC"), cond(api.CStringSize)},
		told{"SUBSTR", args(s, whole(2)), tchar(3), text("BCD"), cond(api.CStringSize)},
		told{"SUBSTR", args(s, whole(3), whole(9)), vary(tchar(1)), text("C"), cond(api.CStringRange)}, // the first one
		told{"SUBSTR", args(s, whole(-3)), tchar(1), text("A"), cond(api.CStringRange)},
		told{"SUBSTR", args(bits("01"), whole(2), whole(1)), tbit(3), digits("100"), cond(0)},
	)
}

// Places and lengths have no bounds but those of FIXED BIN(31,0), and are told exactly.
func TestPartsFarAway(t *testing.T) {
	s, five, beyond := chars("ABCDE"), vary(tchar(5)), cond(api.CStringRange)
	for _, far := range []int{7, 250, 251, 252, api.MaxCount - 1, api.MaxCount, api.MaxCount + 1, 2000000000, mostBin - 1, mostBin} {
		checkCalls(t, []call{
			{"SUBSTR", args(s, whole(far)), five, text(""), beyond},
			{"SUBSTR", args(s, whole(-far)), five, text("ABCDE"), beyond},
			{"SUBSTR", args(s, whole(far), whole(0)), five, text(""), beyond},
			{"SUBSTR", args(s, whole(far), whole(far)), five, text(""), beyond},
			{"SUBSTR", args(s, whole(far), whole(-far)), five, text(""), beyond},
			{"SUBSTR", args(s, whole(3), whole(far)), five, text("CDE"), beyond},
			{"SUBSTR", args(s, whole(3), whole(-far)), five, text(""), beyond},
			{"SUBSTR", args(s, whole(1), whole(far)), five, text("ABCDE"), beyond},
			{"SUBSTR", args(s, whole(0), whole(far)), five, text("ABCDE"), beyond},
			{"SUBSTR", args(s, whole(-1), whole(far)), five, text("ABCDE"), beyond},
			{"SUBSTR", args(s, whole(-far), whole(0)), five, text(""), beyond},
			{"SUBSTR", args(s, whole(-far), whole(-far)), five, text(""), beyond},
			{"SUBSTR", args(s, whole(-far), whole(far)), five, text(""), beyond},
			{"SUBSTR", args(s, whole(1-far), whole(far)), five, text(""), beyond},
			{"SUBSTR", args(s, whole(2-far), whole(far)), five, text("A"), beyond},
			{"SUBSTR", args(s, whole(3-far), whole(far)), five, text("AB"), beyond},
			{"SUBSTR", args(s, whole(6-far), whole(far)), five, text("ABCDE"), beyond},
			{"SUBSTR", args(s, whole(5-far), whole(far-1)), five, text("ABC"), beyond},
		})
	}
}

func TestFound(t *testing.T) {
	count := tbin(31, 0)
	checkCalls(t, []call{
		{"INDEX", args(chars("ABCBC"), chars("BC")), count, vbin(2, 0), cond(0)},
		{"INDEX", args(chars("ABC"), chars("X")), count, vbin(0, 0), cond(0)},
		{"INDEX", args(chars("ABC"), chars("")), count, vbin(0, 0), cond(0)},
		{"INDEX", args(chars(""), chars("")), count, vbin(0, 0), cond(0)},
		{"INDEX", args(bits("0011"), bits("11")), count, vbin(3, 0), cond(0)},
		{"INDEX", args(upTo(9, bits("0011")), upTo(9, bits("1"))), count, vbin(3, 0), cond(0)},
		{"INDEX", args(bits("0011"), chars("11")), count, vbin(3, 0), cond(0)},
		{"INDEX", args(chars("0011"), bits("11")), count, vbin(3, 0), cond(0)},
		{"INDEX", args(upTo(9, bits("0011")), upTo(9, chars("1"))), count, vbin(3, 0), cond(0)},
		{"INDEX", args(chars("A  5"), dec(5, 1, 0)), count, vbin(0, 0), cond(0)}, // of a field of 4 bytes
		{"INDEX", args(chars("A   5"), dec(5, 1, 0)), count, vbin(2, 0), cond(0)},
		{"INDEX", args(dec(125, 3, 2), chars(".2")), count, vbin(4, 0), cond(0)},
		{"INDEX", args(dec(115, 3, 2), bits("1")), count, vbin(3, 0), cond(0)},
		{"INDEX", args(bin(5, 3, 0), bin(5, 3, 0)), count, vbin(1, 0), cond(0)},
		{"VERIFY", args(chars("ABC"), chars("BA")), count, vbin(3, 0), cond(0)},
		{"VERIFY", args(chars("ABC"), chars("CBA")), count, vbin(0, 0), cond(0)},
		{"VERIFY", args(chars("ABC"), chars("")), count, vbin(1, 0), cond(0)},
		{"VERIFY", args(chars(""), chars("")), count, vbin(0, 0), cond(0)},
		{"VERIFY", args(bits("0011"), bits("0")), count, vbin(3, 0), cond(0)},
		{"VERIFY", args(bits("0011"), chars("0")), count, vbin(3, 0), cond(0)},
		{"VERIFY", args(chars("11 0"), bits("10")), count, vbin(3, 0), cond(0)},
		{"VERIFY", args(dec(125, 3, 2), chars(" 0123456789")), count, vbin(4, 0), cond(0)}, // of `  1.25`
		{"VERIFY", args(float(-1, 0, 1), dec(-1, 1, 0)), count, vbin(3, 0), cond(0)},       // `-1.E+00` in `  -1`
	})
	checkTold(t,
		told{"INDEX", args(chars("ABC"), chars("C")), tbin(1, 0), vbin(1, 0), cond(api.CSize)},
		told{"VERIFY", args(chars("ABC"), chars("AB")), tbin(9, 2), vbin(12, 2), cond(0)},
	)
}

func TestTranslated(t *testing.T) {
	checkCalls(t, []call{
		{"TRANSLATE", args(chars("cab"), chars("XY"), chars("abc")), tchar(3), text(" XY"), cond(0)},
		{"TRANSLATE", args(upTo(9, chars("cab")), chars("XYZ"), chars("ab")), vary(tchar(9)), text("cXY"), cond(0)},
		{"TRANSLATE", args(chars("cab"), chars(""), chars("")), tchar(3), text("cab"), cond(0)},
		{"TRANSLATE", args(bits("0110"), chars("NY"), bits("01")), tchar(4), text("NYYN"), cond(0)},
		{"TRANSLATE", args(upTo(9, bits("0110")), bits("10"), bits("01")), vary(tchar(9)), text("1001"), cond(0)},
		{"TRANSLATE", args(dec(125, 3, 2), chars(",_"), chars(". ")), tchar(6), text("__1,25"), cond(0)},
		{"TRANSLATE", args(chars("1.2"), dec(3, 1, 0), bits("0001")), tchar(3), text("3.2"), cond(0)},
	})
	checkTold(t,
		told{"TRANSLATE", args(chars("cab"), chars("XY"), chars("abc")), vary(tchar(2)), text(" X"), cond(api.CStringSize)},
		told{"TRANSLATE", args(chars("cab"), chars("XY"), chars("abc")), tchar(4), text(" XY "), cond(0)},
	)
}

func TestTimes(t *testing.T) {
	longest := vary(tchar(250))
	checkCalls(t, []call{
		{"REPEAT", args(chars("ab"), whole(2)), longest, text("ababab"), cond(0)},
		{"REPEAT", args(chars("ab"), whole(1)), longest, text("abab"), cond(0)},
		{"REPEAT", args(chars("ab"), whole(0)), longest, text("ab"), cond(0)},
		{"REPEAT", args(chars("ab"), whole(-1)), longest, text("ab"), cond(0)},
		{"REPEAT", args(chars("ab"), whole(-mostBin)), longest, text("ab"), cond(0)},
		{"REPEAT", args(chars("ab"), whole(124)), longest, text(many("ab", 125)), cond(0)},
		{"REPEAT", args(chars("ab"), whole(125)), longest, text(many("ab", 125)), cond(api.CStringSize)},
		{"REPEAT", args(chars("abc"), whole(83)), longest, text(many("abc", 83) + "a"), cond(api.CStringSize)},
		{"REPEAT", args(chars("a"), whole(249)), longest, text(many("a", 250)), cond(0)},
		{"REPEAT", args(chars("a"), whole(250)), longest, text(many("a", 250)), cond(api.CStringSize)},
		{"REPEAT", args(chars("ab"), whole(mostBin)), longest, text(many("ab", 125)), cond(api.CStringSize)},
		{"REPEAT", args(chars(""), whole(mostBin)), longest, text(""), cond(0)},
		{"REPEAT", args(chars(many("x", 250)), whole(0)), longest, text(many("x", 250)), cond(0)},
		{"REPEAT", args(chars(many("x", 250)), whole(1)), longest, text(many("x", 250)), cond(api.CStringSize)},
		{"REPEAT", args(upTo(9, bits("01")), whole(1)), vary(tbit(250)), digits("0101"), cond(0)},
		{"REPEAT", args(dec(5, 1, 0), whole(1)), longest, text("   5   5"), cond(0)},
		{"COPY", args(chars("ab"), whole(3)), longest, text("ababab"), cond(0)},
		{"COPY", args(chars("ab"), whole(1)), longest, text("ab"), cond(0)},
		{"COPY", args(chars("ab"), whole(0)), longest, text(""), cond(0)},
		{"COPY", args(chars("ab"), whole(-1)), longest, text(""), cond(0)},
		{"COPY", args(chars("ab"), whole(-mostBin)), longest, text(""), cond(0)},
		{"COPY", args(chars("ab"), whole(125)), longest, text(many("ab", 125)), cond(0)},
		{"COPY", args(chars("ab"), whole(126)), longest, text(many("ab", 125)), cond(api.CStringSize)},
		{"COPY", args(chars("abcd"), whole(63)), longest, text(many("abcd", 62) + "ab"), cond(api.CStringSize)},
		{"COPY", args(chars("a"), whole(250)), longest, text(many("a", 250)), cond(0)},
		{"COPY", args(chars("a"), whole(251)), longest, text(many("a", 250)), cond(api.CStringSize)},
		{"COPY", args(chars("ab"), whole(mostBin)), longest, text(many("ab", 125)), cond(api.CStringSize)},
		{"COPY", args(chars(""), whole(mostBin)), longest, text(""), cond(0)},
		{"COPY", args(upTo(9, bits("01")), dec(39, 2, 1)), vary(tbit(250)), digits("010101"), cond(0)},
		{"COPY", args(bin(5, 3, 1), chars("2")), longest, text("  2.5  2.5"), cond(0)},
	})
	checkTold(t,
		told{"REPEAT", args(chars("ab"), whole(2)), vary(tchar(3)), text("aba"), cond(api.CStringSize)},
		told{"COPY", args(chars("ab"), whole(2)), tchar(6), text("abab  "), cond(0)},
		told{"COPY", args(bits("01"), whole(2)), tbit(6), digits("010100"), cond(0)},
		told{"COPY", args(chars("ab"), whole(300)), vary(tchar(3)), text("aba"), cond(api.CStringSize)},
	)
}

func TestTurnedAndItself(t *testing.T) {
	checkCalls(t, []call{
		{"REVERSE", args(chars("ABC")), tchar(3), text("CBA"), cond(0)},
		{"REVERSE", args(upTo(9, bits("001"))), vary(tbit(9)), digits("100"), cond(0)},
		{"REVERSE", args(dec(125, 3, 2)), tchar(6), text("52.1  "), cond(0)},
		{"REVERSE", args(chars("")), tchar(0), text(""), cond(0)},
		{"STRING", args(chars("ABC")), tchar(3), text("ABC"), cond(0)},
		{"STRING", args(upTo(9, bits("001"))), vary(tbit(9)), digits("001"), cond(0)},
		{"STRING", args(dec(-125, 3, 2)), tchar(6), text(" -1.25"), cond(0)},
		{"STRING", args(bin(-5, 3, 1)), tchar(5), text(" -2.5"), cond(0)},
		{"STRING", args(float(-5, 7, 3)), tchar(9), text("-5.00E+07"), cond(0)},
	})
	checkTold(t,
		told{"REVERSE", args(chars("ABC")), tchar(2), text("CB"), cond(api.CStringSize)},
		told{"STRING", args(bits("001")), vary(tbit(2)), digits("00"), cond(api.CStringSize)},
		told{"STRING", args(chars("ABC")), tchar(5), text("ABC  "), cond(0)},
	)
}

func TestBool(t *testing.T) {
	or := bits("0111")
	checkCalls(t, []call{
		{"BOOL", args(bits("0011"), bits("0101"), or), vary(tbit(4)), digits("0111"), cond(0)},
		{"BOOL", args(bits("0011"), bits("0101"), bits("0010")), vary(tbit(4)), digits("0010"), cond(0)},
		{"BOOL", args(bits("0011"), bits("0101"), bits("0100")), vary(tbit(4)), digits("0100"), cond(0)},
		{"BOOL", args(bits("11"), bits("0000"), bits("1")), vary(tbit(4)), digits("0011"), cond(0)}, // 1 is filled up to 1000
		{"BOOL", args(bits(""), bits("101"), or), vary(tbit(3)), digits("101"), cond(0)},
		{"BOOL", args(bits("11"), bits("01"), bits("")), vary(tbit(2)), digits("00"), cond(0)},
		{"BOOL", args(bits("11"), bits("01"), bits("01110")), vary(tbit(2)), digits("11"), cond(api.CStringSize)},
		{"BOOL", args(upTo(9, bits("0011")), upTo(5, bits("01")), or), vary(tbit(9)), digits("0111"), cond(0)},
		{"BOOL", args(chars("0011"), upTo(7, chars("01")), chars("0111")), vary(tbit(7)), digits("0111"), cond(0)},
		{"BOOL", args(dec(5, 1, 0), bin(2, 2, 0), dec(7, 1, 0)), vary(tbit(4)), digits("1101"), cond(0)}, // 0101, 10
		{"BOOL", args(dec(5, 1, 1), bin(-6, 3, 0), float(7, 0, 1)), vary(tbit(3)), digits("110"), cond(0)},
		{"BOOL", args(bits("01"), bits("10"), dec(7, 2, 0)), vary(tbit(2)), digits("00"), cond(api.CStringSize)}, // 0000111
	})
	checkTold(t,
		told{"BOOL", args(bits("0011"), bits("0101"), or), tbit(6), digits("011100"), cond(0)},
		told{"BOOL", args(bits("0011"), bits("0101"), or), vary(tbit(3)), digits("011"), cond(api.CStringSize)},
	)
}

func TestCharacters(t *testing.T) {
	checkCalls(t, []call{
		{"CHAR", args(dec(5, 1, 0)), tchar(4), text("   5"), cond(0)},
		{"CHAR", args(dec(5, 1, 0), whole(6)), tchar(6), text("   5  "), cond(0)},
		{"CHAR", args(dec(5, 1, 0), whole(4)), tchar(4), text("   5"), cond(0)},
		{"CHAR", args(dec(5, 1, 0), whole(3)), tchar(3), text("   "), cond(api.CStringSize)},
		{"CHAR", args(dec(5, 1, 0), whole(0)), tchar(0), text(""), cond(api.CStringSize)},
		{"CHAR", args(bin(-5, 3, 1)), tchar(5), text(" -2.5"), cond(0)},
		{"CHAR", args(float(-125, 0, 4)), tchar(10), text("-1.250E+02"), cond(0)},
		{"CHAR", args(chars("ABC")), tchar(3), text("ABC"), cond(0)},
		{"CHAR", args(upTo(6, chars("ABC"))), tchar(6), text("ABC   "), cond(0)},
		{"CHAR", args(upTo(6, chars("ABC")), whole(2)), tchar(2), text("AB"), cond(api.CStringSize)},
		{"CHAR", args(upTo(6, bits("01"))), tchar(6), text("01    "), cond(0)},
		{"CHAR", args(chars(""), whole(250)), tchar(250), text(many(" ", 250)), cond(0)},
	})
	// x is converted to the type that is told, whatever n is.
	checkTold(t,
		told{"CHAR", args(dec(5, 1, 0)), vary(tchar(9)), text("   5"), cond(0)},
		told{"CHAR", args(dec(5, 1, 0), whole(999)), tchar(5), text("   5 "), cond(0)},
		told{"CHAR", args(dec(5, 1, 0), whole(-1)), tchar(2), text("  "), cond(api.CStringSize)},
	)
}

func TestDigits(t *testing.T) {
	checkCalls(t, []call{
		{"BIT", args(dec(5, 1, 0)), tbit(4), digits("0101"), cond(0)},
		{"BIT", args(dec(-59, 2, 1)), tbit(4), digits("0101"), cond(0)},
		{"BIT", args(dec(5, 1, 0), whole(6)), tbit(6), digits("010100"), cond(0)},
		{"BIT", args(dec(5, 1, 0), whole(2)), tbit(2), digits("01"), cond(api.CStringSize)},
		{"BIT", args(dec(mostDec, 15, 0)), tbit(31), digits("0100100110001100111111111111111"), cond(api.CSize)},
		{"BIT", args(bin(5, 3, 3)), tbit(0), digits(""), cond(0)},
		{"BIT", args(float(5, 0, 1)), tbit(4), digits("0101"), cond(0)},
		{"BIT", args(chars("0101")), tbit(4), digits("0101"), cond(0)},
		{"BIT", args(upTo(6, chars("0101"))), tbit(6), digits("010100"), cond(0)},
		{"BIT", args(upTo(6, bits("01"))), tbit(6), digits("010000"), cond(0)},
		{"BIT", args(bits("0101"), whole(0)), tbit(0), digits(""), cond(api.CStringSize)},
		{"BIT", args(bits("0101"), whole(250)), tbit(250), digits("0101" + many("0", 246)), cond(0)},
	})
	checkTold(t,
		told{"BIT", args(dec(5, 1, 0)), vary(tbit(9)), digits("0101"), cond(0)},
		told{"BIT", args(dec(5, 1, 0), whole(999)), tbit(5), digits("01010"), cond(0)},
	)
}

func TestHighAndLow(t *testing.T) {
	checkCalls(t, []call{
		{"HIGH", args(whole(3)), tchar(3), text("~~~"), cond(0)},
		{"HIGH", args(whole(0)), tchar(0), text(""), cond(0)},
		{"HIGH", args(whole(250)), tchar(250), text(many("~", 250)), cond(0)},
		{"HIGH", args(chars("2")), tchar(2), text("~~"), cond(0)},
		{"LOW", args(whole(3)), tchar(3), text("   "), cond(0)},
		{"LOW", args(whole(0)), tchar(0), text(""), cond(0)},
		{"LOW", args(whole(250)), tchar(250), text(many(" ", 250)), cond(0)},
		{"LOW", args(bits("11")), tchar(3), text("   "), cond(0)},
	})
	checkTold(t,
		told{"HIGH", args(whole(3)), tchar(5), text("~~~  "), cond(0)},
		told{"HIGH", args(whole(3)), vary(tchar(5)), text("~~~"), cond(0)},
		told{"HIGH", args(whole(3)), tchar(2), text("~~"), cond(api.CStringSize)},
		told{"HIGH", args(whole(-3)), tchar(2), text("  "), cond(0)},
		told{"HIGH", args(whole(251)), tchar(250), text(many("~", 250)), cond(api.CStringSize)},
		told{"HIGH", args(whole(mostBin)), vary(tchar(250)), text(many("~", 250)), cond(api.CStringSize)},
		told{"LOW", args(whole(3)), vary(tchar(5)), text("   "), cond(0)},
		told{"LOW", args(whole(3)), tchar(2), text("  "), cond(api.CStringSize)},
		told{"LOW", args(whole(-mostBin)), vary(tchar(2)), text(""), cond(0)},
		told{"LOW", args(whole(mostBin)), tchar(1), text(" "), cond(api.CStringSize)},
	)
}
