package token_test

import (
	"strings"
	"testing"

	"ironbark/api"
	"ironbark/token"
)

func many(s string, n int) string { return strings.Repeat(s, n) }

// kinds are the kinds of tokens by the letters with which the tests write them.
const kinds = "?NDCBO"

// brief writes tokens each as the letter of its kind, a colon and its text.
func brief(l []api.Token) []string {
	var b []string
	for _, t := range l {
		b = append(b, kinds[t.Kind:t.Kind+1]+":"+t.Text)
	}
	return b
}

// made is the token that brief writes so.
func made(brief string) api.Token {
	return api.Token{Kind: strings.IndexByte(kinds, brief[0]), Text: brief[2:]}
}

func row(briefs ...string) []api.Token {
	var l []api.Token
	for _, b := range briefs {
		l = append(l, made(b))
	}
	return l
}

// alike reports whether tokens are the same, wherever they stand.
func alike(a, b []api.Token) bool {
	if len(a) != len(b) {
		return false
	}
	for at := range a {
		if a[at].Kind != b[at].Kind || a[at].Text != b[at].Text {
			return false
		}
	}
	return true
}

func checkScan(t *testing.T, text string, want ...string) {
	t.Helper()
	if l, at, e := token.Scan(text); !alike(l, row(want...)) || at != 0 || e != api.OK {
		t.Errorf("Scan(%q) = %q, %d, %d; want %q", text, brief(l), at, e, want)
	}
}

func checkWrong(t *testing.T, text string, want int) {
	t.Helper()
	if l, at, e := token.Scan(text); len(l) != 0 || at != want || e != api.ErrSyntax {
		t.Errorf("Scan(%q) = %q, %d, %d; want it wrong at %d", text, brief(l), at, e, want)
	}
}

// The chapter's examples.
func TestExamples(t *testing.T) {
	checkScan(t, "if if=then then then=else;", "N:IF", "N:IF", "O:=", "N:THEN", "N:THEN", "N:THEN", "O:=", "N:ELSE", "O:;")
	checkScan(t, "1.50E-2", "D:1.50E-2")
	checkScan(t, "'F'B4", "B:1111")
	checkScan(t, "101.1B", "D:101.1B")
	checkScan(t, "1..2", "D:1.", "D:.2")
	checkScan(t, "1.E3", "D:1.E3")
	checkScan(t, "''", "C:")
	checkScan(t, "''B", "B:")
	checkWrong(t, "3B2", 0)
	checkWrong(t, "3E", 0)
	checkWrong(t, "3E123", 0)
}

func TestNames(t *testing.T) {
	for _, name := range []string{"A", "Z", "$", "#", "@", "AZ09_$#@", "$1", "#_", "@@", "B", "E", "E5", "B4", "IF", "A_", "X" + many("9", 30), many("$", 31)} {
		checkScan(t, name, "N:"+name)
		checkScan(t, strings.ToLower(name), "N:"+name)
		if !token.Name(name) {
			t.Errorf("Name(%q) is false", name)
		}
	}
	checkScan(t, "aBc dEf", "N:ABC", "N:DEF")
	checkScan(t, "a.b.c", "N:A", "O:.", "N:B", "O:.", "N:C")
	checkScan(t, "a1.b", "N:A1", "O:.", "N:B")
	checkScan(t, "a.5", "N:A", "D:.5")
	checkScan(t, "x'01'b", "N:X", "B:01")
	checkScan(t, "b'01'", "N:B", "C:01")
	checkScan(t, " "+many("a", 31)+"+", "N:"+many("A", 31), "O:+")
	checkWrong(t, many("a", 32), 0)
	checkWrong(t, "a "+many("$", 32)+" ", 2)
	checkWrong(t, ";;"+many("z", 10000), 2)
	checkWrong(t, "_", 0)
	checkWrong(t, "a _a", 2)
	checkWrong(t, "(_", 1)
}

func TestNotNames(t *testing.T) {
	for _, text := range []string{"", " ", "a", "Ab", "aB", "1", "1A", "_", "_A", "A ", " A", "A\n", "A B", "A.B", "A-B", "A'", "'A'", "A/**/", "Ä", "A\x80", "A\x00", "é", "=", "A%", many("A", 32), many("A", 20001), many(" ", 19999) + "A"} {
		if token.Name(text) {
			t.Errorf("Name(%q)", text)
		}
	}
}

func TestNumbers(t *testing.T) {
	for _, number := range []string{"0", "7", "12", "1.5", ".5", "7.", "007.700", "1E5", "1E+5", "1E-5", "1E05", "1E-99", ".5E1", "1.E3", "1.5E00", "0B", "1B", "101.1B", ".1B", "1.B", "00B", many("9", 1000) + "." + many("9", 1000), many("1", 100) + "B"} {
		checkScan(t, number, "D:"+number)
		checkScan(t, strings.ToLower(number), "D:"+number)
		checkScan(t, "("+number+")", "O:(", "D:"+number, "O:)")
	}
	checkScan(t, "1.5.2", "D:1.5", "D:.2")
	checkScan(t, "1...2", "D:1.", "O:.", "D:.2")
	checkScan(t, "1..", "D:1.", "O:.")
	checkScan(t, "1.5.", "D:1.5", "O:.")
	checkScan(t, "1.5.a", "D:1.5", "O:.", "N:A")
	checkScan(t, "1..e5", "D:1.", "O:.", "N:E5")
	checkScan(t, "1E5.5", "D:1E5", "D:.5")
	checkScan(t, "1E5.", "D:1E5", "O:.")
	checkScan(t, "1b.1", "D:1B", "D:.1")
	checkScan(t, "1b.b", "D:1B", "O:.", "N:B")
	checkScan(t, "..5", "O:.", "D:.5")
	checkScan(t, ".b", "O:.", "N:B")
	checkScan(t, "1-2+3", "D:1", "O:-", "D:2", "O:+", "D:3")
	checkScan(t, "1 E5", "D:1", "N:E5")
	checkScan(t, "1/**/b", "D:1", "N:B")
	checkScan(t, "1'a'", "D:1", "C:a")
	checkScan(t, "1E1'a'", "D:1E1", "C:a")
	checkScan(t, "-1", "O:-", "D:1")
	checkScan(t, "1 .5", "D:1", "D:.5")
}

// What is wrong with a number is wrong at its beginning.
func TestWrongNumbers(t *testing.T) {
	for _, number := range []string{
		"3E", "3e", "3E+", "3E-", "3E +5", "3E 5", "3E.5", "3EE5", "3E++5", "3E/**/5", ".5E", "5.E", "3E123", "3E-123", "3E000", "3E1000",
		"1E5E", "1E5E1", "1E5B", "1E5x", "1E55_", "1E5$", "1E5#", "1E5@",
		"2B", "12B", "21B", "1.2B", "0.9b", ".2B", "2.B", "3B2", "1B2", "1B0", "1BB", "1BE1", "1B_", "1B$",
		"5x", "5X", "5a", "5z", "5A", "5Z", "5_", "5$", "5#", "5@", "5.x", "5.5x", ".5x", "5._", "5.EQ", "5.$",
	} {
		checkWrong(t, number, 0)
		checkWrong(t, "a = "+number+" ;", 4)
		checkWrong(t, "\n\t"+number+"\x80", 2)
	}
	checkWrong(t, "1 2 3x 4x", 4)
	checkWrong(t, "1.5x", 0)
	checkWrong(t, "1.5.5x", 3)
	checkWrong(t, "1..5x", 2)
	checkWrong(t, "3E\x80", 0)
	checkWrong(t, "3E+\x80", 0)
	checkWrong(t, "3\x80", 1)
	checkWrong(t, "3E1\x80", 3)
}

func TestCharacters(t *testing.T) {
	printed := ""
	for b := byte(32); b <= 126; b++ {
		if b != '\'' {
			printed += string(b)
		}
	}
	checkScan(t, "'"+printed+"'", "C:"+printed)
	checkScan(t, "'it''s'", "C:it's")
	checkScan(t, "''''", "C:'")
	checkScan(t, "''''''", "C:''")
	checkScan(t, "'''a'", "C:'a")
	checkScan(t, "'a'''", "C:a'")
	checkScan(t, "'a''b' 'c'", "C:a'b", "C:c")
	checkScan(t, "'a' 'b'", "C:a", "C:b")
	checkScan(t, "'aBc'", "C:aBc")
	checkScan(t, "'/*'a'*/'", "C:/*", "N:A", "C:*/")
	checkScan(t, "'a'x", "C:a", "N:X")
	checkScan(t, "'a'5", "C:a", "D:5")
	checkScan(t, "'01'4", "C:01", "D:4")
	checkScan(t, "'01' b", "C:01", "N:B")
	checkScan(t, "'01'/**/B", "C:01", "N:B")
	checkScan(t, "'01'\nB4", "C:01", "N:B4")
	checkScan(t, "'01'$", "C:01", "N:$")
	checkScan(t, "' '", "C: ")
	checkScan(t, "'"+many("x", 250)+"'", "C:"+many("x", 250))
	checkScan(t, "'"+many("''", 250)+"'", "C:"+many("'", 250))
	checkScan(t, "'"+many("''", 249)+"x'y", "C:"+many("'", 249)+"x", "N:Y")
}

func TestWrongCharacters(t *testing.T) {
	for _, constant := range []string{"'", "'a", "'a''", "'''", "'''''", "'a\nb'", "'\n'", "'a\tb'", "'\t", "'a\n", "'a\n\x80'", "'\t\x01",
		"'" + many("x", 251) + "'", "'" + many("x", 251), "'" + many("''", 251) + "'", "'" + many("''", 250) + "x'", "'" + many("x", 250) + "'''", "'" + many("0", 251) + "'B", "'" + many("x", 251) + "\x80'"} {
		checkWrong(t, constant, 0)
		checkWrong(t, "'b'/* */"+constant, 8)
	}
	checkWrong(t, "'ab' 'c", 5)
	checkWrong(t, "'ab\x80'", 3)
	checkWrong(t, "'\x00", 1)
	checkWrong(t, "'\x1f\n'", 1)
	checkWrong(t, "a 'b\x7f", 4)
	checkWrong(t, "'a''\r'", 4)
	checkWrong(t, "'"+many("x", 250)+"\x80'", 251)
}

func TestBits(t *testing.T) {
	checkScan(t, "'0'B", "B:0")
	checkScan(t, "'01101'b", "B:01101")
	checkScan(t, "'0123456789abcdefABCDEF'B4", "B:"+"0000000100100011010001010110011110001001101010111100110111101111"+"101010111100110111101111")
	checkScan(t, "'01'B4", "B:00000001")
	checkScan(t, "'a'b4'a'b4", "B:1010", "B:1010")
	checkScan(t, "''B4", "B:")
	checkScan(t, "''b''b", "B:", "B:")
	checkScan(t, "'1'B 4", "B:1", "D:4")
	checkScan(t, "'1'B.5", "B:1", "D:.5")
	checkScan(t, "'1'B4.5", "B:0001", "D:.5")
	checkScan(t, "'1'B+'1'B", "B:1", "O:+", "B:1")
	checkScan(t, "'1'B'1'", "B:1", "C:1")
	checkScan(t, "'1'B/**/4", "B:1", "D:4")
	checkScan(t, "'1'B(", "B:1", "O:(")
	checkScan(t, "'"+many("01", 125)+"'B", "B:"+many("01", 125))
	checkScan(t, "'"+many("7", 62)+"'B4", "B:"+many("0111", 62))
}

// What is wrong with bits is wrong at their beginning.
func TestWrongBits(t *testing.T) {
	for _, constant := range []string{
		"'2'B", "'01a'B", "'F'B", "'0 1'B", "' 'b", "'0''1'B", "''''B", "'G'B4", "'g'b4", "'0G'B4", "'F F'B4", "'@'B4", "'`'B4", "'/'B4", "':'B4", "'F'''B4", "'-1'B4",
		"'01'BX", "'01'Bx", "'01'B_", "'01'B$", "'01'B#", "'01'B@", "'01'B0", "'01'B1", "'01'B5", "'01'BB", "'01'B44", "'01'B4X", "'01'B4_", "'01'B4$", "'01'B40", "'01'B4B", "'ab'BX", "''BX",
		"'" + many("7", 63) + "'B4", "'" + many("7", 250) + "'b4",
	} {
		checkWrong(t, constant, 0)
		checkWrong(t, "a = "+constant+"\x80", 4)
	}
	checkWrong(t, "'01'B\x80", 5)
	checkWrong(t, "'01'B4\x80", 6)
}

func TestOperators(t *testing.T) {
	all := []string{"**", "||", "^=", "^<", "^>", "<=", ">=", "->", "+", "-", "*", "/", "=", "<", ">", "&", "|", "^", "(", ")", ",", ";", ":", ".", "%"}
	for _, op := range all {
		checkScan(t, op, "O:"+op)
		checkScan(t, " "+op+" ", "O:"+op)
		checkScan(t, "a"+op+"b", "N:A", "O:"+op, "N:B")
	}
	for text, want := range map[string][]string{
		"***":    {"**", "*"},
		"****":   {"**", "**"},
		"|||":    {"||", "|"},
		"^^=":    {"^", "^="},
		"^==":    {"^=", "="},
		"=>":     {"=", ">"},
		"<>":     {"<", ">"},
		"<<=":    {"<", "<="},
		">=-":    {">=", "-"},
		"-->":    {"-", "->"},
		"->>":    {"->", ">"},
		"->=":    {"->", "="},
		"*/":     {"*", "/"},
		"**/":    {"**", "/"},
		"//":     {"/", "/"},
		"*=":     {"*", "="},
		"+=":     {"+", "="},
		"&&":     {"&", "&"},
		"^|":     {"^", "|"},
		":.":     {":", "."},
		"%;":     {"%", ";"},
		"* *":    {"*", "*"},
		"|/**/|": {"|", "|"},
		"- >":    {"-", ">"},
	} {
		var l []string
		for _, op := range want {
			l = append(l, "O:"+op)
		}
		checkScan(t, text, l...)
	}
}

// Of two bytes just those are one operator that the chapter names, and of one.
func TestAllPairsOfBytes(t *testing.T) {
	pairs := " ** || ^= ^< ^> <= >= -> "
	const singles = "+-*/=<>&|^(),;:.%"
	for a := range 256 {
		for b := range 256 {
			text := string([]byte{byte(a), byte(b)})
			if !strings.Contains(singles, text[:1]) || !strings.Contains(singles, text[1:]) || text == "/*" {
				continue
			}
			if strings.Contains(pairs, " "+text+" ") {
				checkScan(t, text, "O:"+text)
			} else {
				checkScan(t, text, "O:"+text[:1], "O:"+text[1:])
			}
		}
	}
}

func TestBetween(t *testing.T) {
	checkScan(t, "")
	checkScan(t, " \t\n ")
	checkScan(t, "/**/")
	checkScan(t, "/***/")
	checkScan(t, "/****/")
	checkScan(t, "/* */ /* */")
	checkScan(t, "/*/*/")
	checkScan(t, "/* /* */ */", "O:*", "O:/")
	checkScan(t, "/* ' */a", "N:A")
	checkScan(t, "/* \t\n~ */a\t\n/**/b", "N:A", "N:B")
	checkScan(t, "a/*x*/b", "N:A", "N:B")
	checkScan(t, "a//**/b", "N:A", "O:/", "N:B")
	checkScan(t, "*/**/*", "O:*", "O:*")
	checkScan(t, "/* * / */x", "N:X")
	checkScan(t, "1/ *2", "D:1", "O:/", "O:*", "D:2")
}

func TestWrongBetween(t *testing.T) {
	for _, comment := range []string{"/*", "/*/", "/* ", "/* *", "/* * /", "/* '*'/", "/*\n", "/* /*"} {
		checkWrong(t, comment, 0)
		checkWrong(t, "a /* */ "+comment, 8)
	}
	checkWrong(t, "/* \x01 */", 3)
	checkWrong(t, "/*\x80", 2)
	checkWrong(t, "/* *\r/ */", 4)
	checkWrong(t, "/**/ \x01", 5)
	for b := range 256 {
		text := string([]byte{byte(b)})
		if strings.Contains(" \t\n", text) || b > 32 && b < 127 && !strings.Contains("!\"?[\\]_`{}~", text) {
			continue
		}
		checkWrong(t, text, 0)
		checkWrong(t, "a "+text+" b", 2)
		checkWrong(t, "; 1"+text, 3-map[bool]int{true: 1}[text == "_"])
	}
}

// A name goes on with just those bytes that may not stand directly behind a number or bits.
func TestEachByteBehind(t *testing.T) {
	for b := range 256 {
		text := string([]byte{byte(b)})
		goes := b < 128 && strings.Contains("ABCDEFGHIJKLMNOPQRSTUVWXYZabcdefghijklmnopqrstuvwxyz0123456789_$#@", text)
		if l, _, _ := token.Scan("A" + text); goes != (len(l) == 1 && len(l[0].Text) == 2) {
			t.Errorf("A%q: %q", text, brief(l))
		}
		for _, ahead := range []string{"1.E11", "1.1B", "'1'B", "'1'B4"} {
			if goes && !(ahead == "'1'B" && text == "4") {
				checkWrong(t, ahead+text, 0)
			} else if l, at, e := token.Scan(ahead + text); e != api.OK && at == 0 || e == api.OK && len(l) == 0 {
				t.Errorf("%s%q: %q, %d, %d", ahead, text, brief(l), at, e)
			}
		}
	}
}

// Just digits make bits, and just signs stand behind an E.
func TestEachByteWithin(t *testing.T) {
	for b := byte(32); b <= 126; b++ {
		text := strings.ReplaceAll(string(b), "'", "''")
		for ending, digits := range map[string]string{"B": "01", "B4": "0123456789abcdefABCDEF"} {
			constant := "'1" + text + "0'" + ending
			if !strings.Contains(digits, text) {
				checkWrong(t, constant, 0)
			} else if l, _, e := token.Scan(constant); len(l) != 1 || l[0].Kind != api.KBits || e != api.OK {
				t.Errorf("Scan(%q) = %q, %d", constant, brief(l), e)
			}
		}
		number := "1E" + text + "5"
		if strings.Contains("+-0123456789", text) {
			checkScan(t, number, "D:"+number)
		} else {
			checkWrong(t, number, 0)
		}
	}
}

// Each token stands where it begins.
func TestWhereTokensStand(t *testing.T) {
	for text, want := range map[string][]int{
		"if if=then": {0, 3, 5, 6},
		" a  /* x */ 'it''s'c ''B\n\t1.5E-3->.5 /": {1, 12, 19, 21, 26, 32, 34, 37},
		"'1'B4'x'1..2**": {0, 5, 8, 10, 12},
		"":               nil,
	} {
		l, _, e := token.Scan(text)
		var got []int
		for _, x := range l {
			got = append(got, x.At)
		}
		if len(got) != len(want) || e != api.OK {
			t.Errorf("Scan(%q): at %v, %d; want %v", text, got, e, want)
			continue
		}
		for n := range got {
			if got[n] != want[n] {
				t.Errorf("Scan(%q): at %v; want %v", text, got, want)
				break
			}
		}
	}
}

// The first place that is wrong decides; in a text that is too long none is asked for.
func TestFirstWrongPlace(t *testing.T) {
	checkWrong(t, "5x !", 0)
	checkWrong(t, "! 5x", 0)
	checkWrong(t, "a ! 5x 'b", 2)
	checkWrong(t, "a 5x ! \x80", 2)
	checkWrong(t, "/* \x80", 3)
	checkWrong(t, "'a\x80", 2)
	checkWrong(t, "'a\n\x80", 0)
	for text, e := range map[string]api.Errno{
		many(" ", 20000):               api.OK,
		many(" ", 20001):               api.ErrLong,
		many("\x80", 20001):            api.ErrLong,
		"!" + many(" ", 20000):         api.ErrLong,
		many("a ", 10000):              api.OK,
		many("1", 20000):               api.OK,
		many("1", 19999) + "B":         api.OK,
		many("1", 20001):               api.ErrLong,
		"/*" + many("*", 19996) + "*/": api.OK,
		"/*" + many("*", 19997) + "*/": api.ErrLong,
		many(" ", 19999) + "!":         api.ErrSyntax,
		many("1", 19999) + "x":         api.ErrSyntax,
	} {
		if l, at, got := token.Scan(text); got != e || e != api.OK && len(l) > 0 || e != api.ErrSyntax && at != 0 {
			t.Errorf("Scan(%.10q.. of %d) = %d, %d; want %d", text, len(text), at, got, e)
		}
	}
}
