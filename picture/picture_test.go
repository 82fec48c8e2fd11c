package picture_test

import (
	"strings"
	"testing"

	"ironbark/api"
	"ironbark/picture"
)

func vbin(n, q int) api.Value { return api.Value{Kind: api.TBin, N: n, Q: q} }

func vdec(n, q int) api.Value { return api.Value{Kind: api.TDec, N: n, Q: q} }

func vfloat(n, q int) api.Value { return api.Value{Kind: api.TFloat, N: n, Q: q} }

func tdec(p, q int) api.Type { return api.Type{Kind: api.TDec, P: p, Q: q} }

func tchar(n int) api.Type { return api.Type{Kind: api.TChar, N: n} }

func many(text string, n int) string { return strings.Repeat(text, n) }

// made is the picture of a text that is one.
func made(t *testing.T, text string) picture.Picture {
	t.Helper()
	p, at, e := picture.Parse(text)
	if at != 0 || e != api.OK {
		t.Fatalf("Parse(%q): %d, %d", text, at, e)
	}
	return p
}

// known is what a picture tells of itself.
type known struct {
	text    string // in great letters
	numeric bool
	of      api.Type
	length  int
}

func checkKnown(t *testing.T, source string, want known) {
	t.Helper()
	p := made(t, source)
	if got := (known{p.Text(), p.Numeric(), p.Type(), p.Len()}); got != want {
		t.Errorf("%q: %+v, not %+v", source, got, want)
	}
}

// 7.1: what numeric pictures tell of themselves.
func TestNumeric(t *testing.T) {
	for source, want := range map[string]known{
		"9":                    {"9", true, tdec(1, 0), 1},
		"Z":                    {"Z", true, tdec(1, 0), 1},
		"*":                    {"*", true, tdec(1, 0), 1},
		"v9":                   {"V9", true, tdec(1, 1), 1},
		"9v":                   {"9V", true, tdec(1, 0), 1},
		"ZZ9V.99":              {"ZZ9V.99", true, tdec(5, 2), 6},
		"zz9v.99":              {"ZZ9V.99", true, tdec(5, 2), 6},
		"zZzV.Zz":              {"(3)ZV.ZZ", true, tdec(5, 2), 6},
		"VZZZ":                 {"V(3)Z", true, tdec(3, 3), 3},
		"V**":                  {"V**", true, tdec(2, 2), 2},
		"$$,$$9":               {"$$,$$9", true, tdec(4, 0), 6},
		"$$":                   {"$$", true, tdec(1, 0), 2},
		"SSS":                  {"(3)S", true, tdec(2, 0), 3},
		"ss.ss.ssv99":          {"SS.SS.SSV99", true, tdec(7, 2), 10},
		"++++":                 {"(4)+", true, tdec(3, 0), 4},
		"--,--9":               {"--,--9", true, tdec(4, 0), 6},
		"999CR":                {"(3)9CR", true, tdec(3, 0), 5},
		"9db":                  {"9DB", true, tdec(1, 0), 3},
		"9dBb":                 {"9DBB", true, tdec(1, 0), 4},
		"9cRv":                 {"9CRV", true, tdec(1, 0), 3},
		"9b/,.":                {"9B/,.", true, tdec(1, 0), 5},
		"....bbb,,,///9":       {"(4).(3)B(3),(3)/9", true, tdec(1, 0), 14},
		"-$9":                  {"-$9", true, tdec(1, 0), 3},
		"9$-":                  {"9$-", true, tdec(1, 0), 3},
		"$9-":                  {"$9-", true, tdec(1, 0), 3},
		"s$$$9":                {"S(3)$9", true, tdec(3, 0), 5},
		"$---9V9":              {"$(3)-9V9", true, tdec(4, 1), 6},
		"V$9CR":                {"V$9CR", true, tdec(1, 1), 4},
		"(15)9":                {"(15)9", true, tdec(15, 0), 15},
		"V(15)9":               {"V(15)9", true, tdec(15, 15), 15},
		"(16)$":                {"(16)$", true, tdec(15, 0), 16},
		"(2)9":                 {"99", true, tdec(2, 0), 2},
		"9(2)9":                {"(3)9", true, tdec(3, 0), 3},
		"(3)9":                 {"(3)9", true, tdec(3, 0), 3},
		"(1)V(1)9(1)cr":        {"V9CR", true, tdec(1, 1), 3},
		"(10)9b(12)BV9":        {"(10)9(13)BV9", true, tdec(11, 1), 24},
		"(29)b9":               {"(29)B9", true, tdec(1, 0), 30},
		"(30)b9":               {"(30)B9", true, tdec(1, 0), 31},
		"(30)bb9":              {"(30)BB9", true, tdec(1, 0), 32},
		"b(30)b(1)b9":          {"(30)BBB9", true, tdec(1, 0), 33},
		"(3)b(30)b9":           {"(30)B(3)B9", true, tdec(1, 0), 34},
		"(20)b(19)b9":          {"(30)B(9)B9", true, tdec(1, 0), 40},
		"9(30)/(9)/":           {"9(30)/(9)/", true, tdec(1, 0), 40},
		"9(30)/(8)/cr":         {"9(30)/(8)/CR", true, tdec(1, 0), 41},
		"9(30)/(7)/vdb":        {"9(30)/(7)/VDB", true, tdec(1, 0), 40},
		many("(1)9", 15):       {"(15)9", true, tdec(15, 0), 15},
		"9V" + many("(2)9", 7): {"9V(14)9", true, tdec(15, 14), 15},
	} {
		checkKnown(t, source, want)
	}
}

// 7.1: what pictures of characters tell of themselves.
func TestCharacters(t *testing.T) {
	for source, want := range map[string]known{
		"A":                 {"A", false, tchar(1), 1},
		"x":                 {"X", false, tchar(1), 1},
		"aaX9":              {"AAX9", false, tchar(4), 4},
		"9a":                {"9A", false, tchar(2), 2},
		"(16)9x":            {"(16)9X", false, tchar(17), 17},
		"(3)aAaa":           {"(6)A", false, tchar(6), 6},
		"(30)x(10)x":        {"(30)X(10)X", false, tchar(40), 40},
		"(30)xXx":           {"(30)XXX", false, tchar(32), 32},
		"xx(30)xx":          {"(30)X(3)X", false, tchar(33), 33},
		"A" + many("9", 39): {"A(30)9(9)9", false, tchar(40), 40},
	} {
		checkKnown(t, source, want)
	}
}

// unreadable is a text that is no picture, and where it is wrong.
type unreadable struct {
	text string
	at   int
}

func checkUnreadable(t *testing.T, l []unreadable) {
	t.Helper()
	for _, x := range l {
		if p, at, e := picture.Parse(x.text); p != (picture.Picture{}) || at != x.at || e != api.ErrSyntax {
			t.Errorf("Parse(%q) = %+v, %d, %d; wrong at %d", x.text, p, at, e, x.at)
		}
	}
}

// 7.1: the first byte that is no part of a symbol or a factor.
func TestUnreadable(t *testing.T) {
	checkUnreadable(t, []unreadable{
		{"", 0}, {"Q", 0}, {"9Q", 1}, {" 9", 0}, {"9 ", 1}, {"9\n", 1}, {"9\x00", 1}, {"\x009", 0}, {"9\x80", 1}, {"9ö", 1}, {"9ı", 1}, {"9ſ", 1},
		{"0", 0}, {"90", 1}, {"8", 0}, {"9)", 1}, {")9", 0}, {"9z9Y", 3}, {"9'", 1}, {"9@", 1}, {"9[", 1}, {"9`", 1}, {"9{", 1},
		{"C", 1}, {"c", 1}, {"9C", 2}, {"9D", 2}, {"9CX", 2}, {"9CB", 2}, {"9DR", 2}, {"9DD", 2}, {"9CC", 2}, {"9C\x00", 2}, {"9 CR", 1}, {"9C R", 2}, {"R", 0}, {"9R", 1}, {"9CRR", 3}, {"9CRD", 4},
		{"(", 1}, {"()", 1}, {"()9", 1}, {"(9", 2}, {"(0", 1}, {"(0)9", 1}, {"(01)9", 1}, {"(00)9", 1}, {"(-1)9", 1}, {"(+1)9", 1}, {"( 1)9", 1}, {"(1 )9", 2}, {"(1.0)9", 2}, {"(x)9", 1}, {"(1x)9", 2},
		{"(3", 2}, {"(30", 3}, {"(31", 2}, {"(31)9", 2}, {"(39)9", 2}, {"(40)9", 2}, {"(99)9", 2}, {"(300)9", 3}, {"(100)9", 3}, {"(111)9", 3},
		{"(3)", 3}, {"(30)", 4}, {"(3)(", 3}, {"(3)(3)9", 3}, {"(3))", 3}, {"(3) 9", 3}, {"(3)Q", 3}, {"(2)C", 4}, {"(2)CX", 4}, {"9(3)", 4}, {"9(3", 3}, {"9(", 2}, {"9(3)(3)", 4}, {"(3)9(0)9", 5},
		{"(\x00", 1}, {"(1\x00", 2}, {"(1)\x00", 3}, {"((1)9", 1},
		// What can't be read comes ahead of what is not allowed.
		{"ZZ9ZQ", 4}, {"BBq", 2}, {"(30)9(30)9Q", 10}, {"9V9VC", 5}, {"A.(3", 4},
	})
}

// 7.1: pictures that the rules do not allow, each by one rule.
func TestNotAllowed(t *testing.T) {
	for _, text := range []string{
		// The number of symbols, and of digits.
		"(30)b(10)b9", "9(30)/(10)/", "9(30)/(9)/cr", "9(30)/(9)/v", "(30)x(11)x", "A(30)9(10)9", "(16)9", "(16)Z", "(15)9V9", "(17)$", "(17)S", "(15)$99", "(30)9(30)9",
		"BB", "V", ".", "S", "$", "CR", "-$", "V.", "-CR",
		// Kinds of signs; runs.
		"S+9", "S9+", "-9S", "SS-9", "++9-", "S-S9", "S9S", "+9+", "-99-", "9SS", "9--", "9$$", "Z$$", "$$Z", "$$*9", "ZZSS", "*--9", "$$ZZ9", "$9$", "$V$", "9V$$", "V$$9", "$V$9", "$$V$", "9V--9", "SSV9S", "$$--9", "--$$9", "$-$9", "-$-9", "$-$-9", "S$S", "9$9$", "$$9$",
		// What is static.
		"9S9", "Z-9", "9$9", "9V$9", "9V-9", "9+V9", "--$9", "$$-9", "Z$Z", "*S*",
		// CR and DB.
		"CR9", "9CR9", "9DB9", "9CRCR", "(2)CR", "9(2)CR", "9CRDB", "9DBDB", "S9CR", "9CR-", "9-CR", "9CR+", "SS9CR", "--9DB", "ZCRZ", "$CR$9", "$CR$",
		// What is suppressed.
		"Z*", "*Z", "Z*9", "ZV*", "*VZ", "ZZ9Z", "9Z", "9*", "9,Z", "9*V9", "9VZ", "9V*", "Z9VZ", "ZVZ9", "ZV9Z", "*V*9", "V9Z", "VZ9", "V*9", "VZ*",
		// V.
		"99V9V", "VV9", "(2)V9", "9VV", "V9V",
		// Characters among other symbols.
		"A.9", "AZ", "XV9", "A9.", "XB", "AS", "X$", "A*", "X-9", "9CRA", "A/",
	} {
		checkUnreadable(t, []unreadable{{text, 0}})
	}
}

// 7.1: a text that is too long, whatever else is wrong with it.
func TestLongPictures(t *testing.T) {
	for _, text := range []string{many("9", 201), many("Q", 201), many("(", 201), many("X", 201), many("9", 20001)} {
		if p, at, e := picture.Parse(text); p != (picture.Picture{}) || at != 0 || e != api.ErrLong {
			t.Errorf("Parse(%q) = %+v, %d, %d", text, p, at, e)
		}
	}
	checkUnreadable(t, []unreadable{{many("9", 200), 0}, {many("Q", 200), 0}, {many("9", 199) + "Q", 199}, {many("(1)9", 50), 0}, {many("9", 199) + "C", 200}})
	checkKnown(t, many("(1)x", 40), known{"(30)X(10)X", false, tchar(40), 40})
}

// P7.4: small letters, factors and what Text writes are the same picture.
func TestSamePictures(t *testing.T) {
	for _, l := range [][]string{
		{"ZZ9V.99", "(2)z9v.(2)9", "(1)Z(1)Z9V.99"},
		{"(5)9V99CR", "99999v99cr", "(2)9(3)9V(2)9cR"},
		{"(30)X(10)X", many("x", 40), "(20)x(20)x"},
	} {
		for _, text := range l {
			if made(t, text) != made(t, l[0]) || made(t, made(t, text).Text()) != made(t, text) {
				t.Errorf("%q and %q", l[0], text)
			}
		}
	}
	if made(t, "99") == made(t, "ZZ") || made(t, "9") == made(t, "99") || made(t, "9CR") == made(t, "9DB") {
		t.Error("other pictures are the same")
	}
}

// A picture that Parse did not make tells nothing.
func TestNoPicture(t *testing.T) {
	var p picture.Picture
	if got := (known{p.Text(), p.Numeric(), p.Type(), p.Len()}); got != (known{}) {
		t.Errorf("%+v", got)
	}
}
