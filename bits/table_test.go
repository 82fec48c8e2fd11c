package bits_test

import (
	"strings"
	"testing"

	"ironbark/api"
	"ironbark/bits"
)

func TestBool(t *testing.T) {
	for _, x := range []struct{ a, b, table, want string }{
		{"1100", "1010", "0110", "0110"},
		// The digits of a table are those of 00, 01, 10 and 11.
		{"0011", "0101", "1000", "1000"},
		{"0011", "0101", "0100", "0100"},
		{"0011", "0101", "0010", "0010"},
		{"0011", "0101", "0001", "0001"},
		{"0011", "0101", "0000", "0000"},
		{"0011", "0101", "1111", "1111"},
		{"0011", "0101", "0011", "0011"},
		{"0011", "0101", "0101", "0101"},
		// The shorter one is filled up behind.
		{"1", "1111", "0001", "1000"},
		{"1111", "1", "0001", "1000"},
		{"", "01", "0100", "01"},
		{"01", "", "0010", "01"},
		{"", "01", "0010", "00"},
		{"01", "", "0100", "00"},
		{"", "00", "1000", "11"},
		{"", "", "1111", ""},
		{long("01", 250), "1", "0111", "1" + long("10", 249)},
		{"", long("01", 250), "1010", long("10", 250)},
	} {
		checkString(t, digits(x.want))(bits.Bool(digits(x.a), digits(x.b), x.table))
	}
}

func TestAndOrXor(t *testing.T) {
	for _, x := range []struct{ a, b, and, or, xor string }{
		{"0011", "0101", "0001", "0111", "0110"},
		{"11", "1", "10", "11", "01"},
		{"01", "100", "000", "110", "110"},
		{"", "10", "00", "10", "10"},
		{"10", "", "00", "10", "10"},
		{"", "", "", "", ""},
		{long("1", 250), "1", "1" + long("0", 249), long("1", 250), "0" + long("1", 249)},
	} {
		checkString(t, digits(x.and))(bits.And(digits(x.a), digits(x.b)))
		checkString(t, digits(x.or))(bits.Or(digits(x.a), digits(x.b)))
		checkString(t, digits(x.xor))(bits.Xor(digits(x.a), digits(x.b)))
	}
}

func TestNot(t *testing.T) {
	checkString(t, digits("01"))(bits.Not(digits("10")))
	checkString(t, digits("1"))(bits.Not(digits("0")))
	checkString(t, digits("0000"))(bits.Not(digits("1111")))
	checkString(t, digits(""))(bits.Not(digits("")))
	checkString(t, digits(long("10", 250)))(bits.Not(digits(long("01", 250))))
}

func TestSomeAndEvery(t *testing.T) {
	for _, x := range []struct {
		a           string
		some, every bool
	}{
		{"", false, true}, {"0", false, false}, {"1", true, true}, {"01", true, false}, {"10", true, false}, {"00", false, false}, {"11", true, true}, {"0001", true, false}, {"1110", true, false}, {"1011", true, false},
		{long("0", 249) + "1", true, false}, {long("1", 249) + "0", true, false}, {long("0", 250), false, false}, {long("1", 250), true, true},
	} {
		checkAnswer(t, x.some)(bits.Some(digits(x.a)))
		checkAnswer(t, x.every)(bits.Every(digits(x.a)))
	}
}

func TestCompare(t *testing.T) {
	for _, x := range []struct {
		a, b api.Value
		want int
	}{
		{text("a"), text("a"), 0},
		{text("a"), text("b"), -1},
		{text("abc"), text("abd"), -1},
		{text("az"), text("b"), -1},
		{text("b"), text("az"), 1},
		// The shorter one is filled up behind.
		{text("a"), text("a  "), 0},
		{text("a"), text("a!"), -1},
		{text("a  "), text("a !"), -1},
		{text(""), text("   "), 0},
		{text(""), text(" ! "), -1},
		{text(""), text(""), 0},
		{text("ab"), text("a"), 1},
		{text(" a"), text("a"), -1},
		// bytes as numbers
		{text("A"), text("a"), -1},
		{text("Z"), text("a"), -1},
		{text("9"), text("A"), -1},
		{text("~"), text("z"), 1},
		{text(" "), text("!"), -1},
		{text("10"), text("9"), -1},
		{digits("11"), digits("1"), 1},
		{digits("10"), digits("1"), 0},
		{digits("0"), digits(""), 0},
		{digits(""), digits("001"), -1},
		{digits("01"), digits("1"), -1},
		{digits("0111"), digits("10"), -1},
		{digits("1000"), digits("1"), 0},
		{text(long("a", 250)), text(long("a", 249) + "b"), -1},
		{text("a"), text("a" + long(" ", 249)), 0},
		{text("a"), text("a" + long(" ", 248) + "!"), -1},
		{digits("1"), digits("1" + long("0", 249)), 0},
		{digits("1"), digits("1" + long("0", 248) + "1"), -1},
	} {
		checkAnswer(t, x.want)(bits.Compare(x.a, x.b))
		checkAnswer(t, -x.want)(bits.Compare(x.b, x.a))
	}
}

// tables are all of them.
func tables() []string {
	var l []string
	for _, v := range small(digits, "01", 4) {
		if len(v.S) == 4 {
			l = append(l, v.S)
		}
	}
	return l
}

// padded is a string that is filled up behind.
func padded(v api.Value, length int) string {
	filler := map[int]string{api.TChar: " ", api.TBit: "0"}[v.Kind]
	return v.S + strings.Repeat(filler, max(length-len(v.S), 0))
}

// Of short strings all, by all tables.
func TestCombinedBitByBit(t *testing.T) {
	all := small(digits, "01", 4)
	for _, a := range all {
		for _, b := range all {
			length := max(len(a.S), len(b.S))
			x, y := padded(a, length), padded(b, length)
			for _, table := range tables() {
				checkString(t, digits(byRows(x, y, table)))(bits.Bool(a, b, table))
			}
			checkString(t, digits(byRows(x, y, "0001")))(bits.And(a, b))
			checkString(t, digits(byRows(x, y, "0111")))(bits.Or(a, b))
			checkString(t, digits(byRows(x, y, "0110")))(bits.Xor(a, b))
		}
	}
}

// byRows looks two bits up in the rows of a table.
func byRows(x, y, table string) string {
	made := ""
	for at := range len(x) {
		for row, both := range []string{"00", "01", "10", "11"} {
			if x[at:at+1]+y[at:at+1] == both {
				made += table[row : row+1]
			}
		}
	}
	return made
}

func TestComparedItemByItem(t *testing.T) {
	for _, all := range [][]api.Value{small(text, " !~", 4), small(digits, "01", 6)} {
		for _, a := range all {
			for _, b := range all {
				length := max(len(a.S), len(b.S))
				checkAnswer(t, strings.Compare(padded(a, length), padded(b, length)))(bits.Compare(a, b))
			}
		}
	}
}
