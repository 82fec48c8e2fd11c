package attr_test

import (
	"slices"
	"strings"
	"testing"

	"ironbark/api"
	"ironbark/attr"
)

// words is a set of words alone.
func words(list string) api.Set { return api.Set{Words: strings.Fields(list)} }

// of is a set of words and a precision.
func of(list string, p int) api.Set {
	s := words(list)
	s.HasP, s.P = true, p
	return s
}

// scaled is a set of words, a precision and a scale.
func scaled(list string, p, q int) api.Set {
	s := of(list, p)
	s.HasQ, s.Q = true, q
	return s
}

// long is a set of words and a length.
func long(list string, n int) api.Set {
	s := words(list)
	s.HasN, s.N = true, n
	return s
}

// shown is a set of words and a picture.
func shown(list, pic string) api.Set {
	s := words(list)
	s.Pic = pic
	return s
}

// wrongSets is a set for each way in which one is not right.
var wrongSets = []api.Set{
	words("FOO"), {Words: []string{""}}, words("fixed"), words("BIN"), words("AUTO"),
	words("FIXED BINARY"), words("STATIC AUTOMATIC"), words("FIXED FIXED"), words("INITIAL INITIAL"),
	words("FIXED FLOAT"), words("BINARY DECIMAL"), words("BIT CHARACTER"), words("BIT FIXED"), words("BINARY POINTER"), words("LABEL POINTER"),
	words("AUTOMATIC STATIC"), words("BASED CONTROLLED"), words("BASED INITIAL"), words("FILE INITIAL"), words("FILE STATIC"), words("AUTOMATIC ENTRY"),
	words("BASED BUILTIN"), words("CONDITION CONTROLLED"), words("BUILTIN CONDITION"), words("ENTRY FILE"), words("FIXED VARYING"),
	words("VARYING"), words("STATIC VARYING"), words("POINTER VARYING"),
	of("BIT", 5), of("FILE", 5), of("POINTER STATIC", 5), of("FIXED", -1), of("FIXED", 32), of("", -1), of("", 32),
	scaled("FLOAT", 5, 0), scaled("FLOAT", 5, 2), scaled("FIXED", 5, -1), scaled("FIXED", 5, 32), scaled("", 5, 32),
	{HasQ: true}, {HasQ: true, Q: 2}, {P: 1}, {Q: 1}, {N: 1}, {P: -1}, {Q: -1}, {N: -1}, {HasP: true, P: 5, Q: 2}, {Words: []string{"FIXED"}, P: 5},
	long("", 5), long("FIXED", 5), long("FILE", 0), long("BIT", -1), long("BIT", 251), long("CHARACTER VARYING", 251), {Words: []string{"BIT"}, N: 5},
	words("PICTURE"), shown("", "9"), shown("BIT", "9"), shown("PICTURE", strings.Repeat("9", 81)), {Words: []string{"PICTURE"}, Pic: "9", HasP: true},
	{Words: []string{"PICTURE"}, Pic: "9", HasN: true},
}

func TestCanonical(t *testing.T) {
	for _, word := range allWords() {
		if got, e := attr.Canonical(word); got != word || e != api.OK {
			t.Errorf("%s: %q, %d", word, got, e)
		}
	}
	for short, word := range shorter {
		if got, e := attr.Canonical(short); got != word || e != api.OK {
			t.Errorf("%s: %q, %d", short, got, e)
		}
	}
	for _, word := range []string{"", " ", "FOO", "fixed", "Fixed", "bin", "FIXED ", " FIXED", "FIX", "FIXEDS", "CHARACTE", "B", "BI", "LAB", "PROC", "DCL", "AUTOM", "CONTROL", "VARY", "COMPLEX", "REAL", "BIN\x00"} {
		if got, e := attr.Canonical(word); got != "" || e != api.ErrName {
			t.Errorf("%q: %q, %d", word, got, e)
		}
	}
}

func TestTogether(t *testing.T) {
	for pair, want := range map[string]bool{
		"FIXED BINARY": true, "FIXED DECIMAL": true, "FLOAT BIN": true, "DEC FLOAT": true, "FIXED FLOAT": false, "BINARY DECIMAL": false,
		"FIXED FIXED": false, "DEC DECIMAL": false, "CHAR BIT": false, "CHAR VAR": true, "VARYING BIT": true, "VAR FIXED": false, "VAR PIC": false,
		"VAR STATIC": true, "VAR INIT": true, "VAR VARYING": false, "FIXED CHAR": false, "PIC FIXED": false, "PTR LABEL": false, "PTR BASED": true,
		"LABEL INITIAL": true, "LABEL STATIC": true, "ENTRY AUTO": false, "ENTRY INIT": false, "FILE STATIC": false, "FILE INITIAL": false,
		"BUILTIN BASED": false, "COND CTL": false, "COND BUILTIN": false, "AUTO STATIC": false, "CTL BASED": false, "INIT BASED": false,
		"INIT STATIC": true, "INIT AUTO": true, "INIT CTL": true, "INIT INITIAL": false, "BASED FIXED": true, "PICTURE CONTROLLED": true,
	} {
		a, b, _ := strings.Cut(pair, " ")
		if is, e := attr.Together(a, b); is != want || e != api.OK {
			t.Errorf("%s: %v, %d", pair, is, e)
		}
		if is, e := attr.Together(b, a); is != want || e != api.OK {
			t.Errorf("%s turned: %v, %d", pair, is, e)
		}
	}
	for _, pair := range [][2]string{{"FOO", "FIXED"}, {"FIXED", "FOO"}, {"", ""}, {"fixed", "BINARY"}, {"FIXED", "binary"}} {
		if is, e := attr.Together(pair[0], pair[1]); is || e != api.ErrName {
			t.Errorf("%v: %v, %d", pair, is, e)
		}
	}
}

func TestRight(t *testing.T) {
	for _, s := range []api.Set{
		{}, words("FIXED"), words("BINARY"), words("STATIC"), words("INITIAL"), words("AUTOMATIC BINARY FIXED INITIAL"), words("DECIMAL FLOAT STATIC"),
		of("", 0), of("", 31), of("STATIC", 5), of("BASED", 5), of("INITIAL", 5), of("BINARY", 0), of("FLOAT", 31), scaled("", 0, 0), scaled("", 5, 31), scaled("FIXED", 31, 0),
		scaled("BINARY", 5, 2), long("BIT", 0), long("CHARACTER VARYING", 250), words("BIT VARYING"), long("BASED CHARACTER", 3), shown("PICTURE", "9"),
		shown("PICTURE STATIC", strings.Repeat("9", 80)), shown("PICTURE", "\xff'"), words("FILE"), words("BUILTIN"), words("CONDITION"), words("ENTRY"),
		words("LABEL STATIC"), words("INITIAL POINTER"), {Words: []string{}},
	} {
		if !attr.Right(s) {
			t.Errorf("%v is right", s)
		}
	}
	for _, s := range wrongSets {
		if attr.Right(s) {
			t.Errorf("%v is not right", s)
		}
	}
	if attr.Right(api.Set{Words: make([]string, 100000)}) || attr.Right(api.Set{Words: slices.Repeat([]string{"FIXED"}, 100000)}) {
		t.Error("many")
	}
}

func TestAdd(t *testing.T) {
	for _, c := range []struct {
		s    api.Set
		word string
		text string
		e    api.Errno
	}{
		{api.Set{}, "DEC", "DECIMAL", api.OK},
		{words("DECIMAL"), "FIXED", "DECIMAL FIXED", api.OK},
		{words("FIXED"), "DEC", "DECIMAL FIXED", api.OK},
		{words("FIXED"), "CHARACTER", "", api.ErrKind},
		{words("FIXED"), "FIXED", "", api.ErrDuplicate},
		{words("BINARY"), "BIN", "", api.ErrDuplicate},
		{words("FIXED"), "FLOAT", "", api.ErrKind},
		{api.Set{}, "VARYING", "", api.ErrKind},
		{words("STATIC"), "VAR", "", api.ErrKind},
		{words("FIXED"), "VAR", "", api.ErrKind},
		{long("CHARACTER", 5), "VAR", "CHARACTER(5) VARYING", api.OK},
		{words("BIT"), "VARYING", "BIT VARYING", api.OK},
		{words("BIT VARYING"), "VARYING", "", api.ErrDuplicate},
		{api.Set{}, "PICTURE", "", api.ErrKind},
		{words("STATIC"), "PIC", "", api.ErrKind},
		{words("BIT"), "PIC", "", api.ErrKind},
		{shown("PICTURE", "9"), "PIC", "", api.ErrDuplicate},
		{shown("PICTURE", "9"), "INIT", "INITIAL PICTURE'9'", api.OK},
		{shown("PICTURE", "9"), "FIXED", "", api.ErrKind},
		{of("", 5), "BIT", "", api.ErrKind},
		{of("", 5), "POINTER", "", api.ErrKind},
		{of("", 5), "FILE", "", api.ErrKind},
		{of("", 5), "VARYING", "", api.ErrKind},
		{of("", 5), "FLOAT", "FLOAT(5)", api.OK},
		{of("", 5), "STATIC", "(5) STATIC", api.OK},
		{scaled("", 5, 2), "FLOAT", "", api.ErrKind},
		{scaled("DECIMAL", 5, 0), "FLOAT", "", api.ErrKind},
		{scaled("", 5, 2), "FIXED", "FIXED(5,2)", api.OK},
		{scaled("FIXED", 5, 2), "BIN", "BINARY FIXED(5,2)", api.OK},
		{words("BINARY FIXED"), "INIT", "BINARY FIXED INITIAL", api.OK},
		{words("BASED"), "INIT", "", api.ErrKind},
		{words("INITIAL"), "BASED", "", api.ErrKind},
		{words("INITIAL"), "CTL", "CONTROLLED INITIAL", api.OK},
		{words("STATIC"), "AUTO", "", api.ErrKind},
		{words("STATIC"), "FILE", "", api.ErrKind},
		{words("FILE"), "STATIC", "", api.ErrKind},
		{words("ENTRY"), "INIT", "", api.ErrKind},
		{words("AUTOMATIC FIXED"), "BIN", "AUTOMATIC BINARY FIXED", api.OK},
	} {
		s, e := attr.Add(c.s, c.word)
		if text, _ := attr.Text(s); text != c.text || e != c.e || e != api.OK && !isEmpty(s) {
			t.Errorf("%v, %s: %q, %d", c.s, c.word, text, e)
		}
	}
}

func TestMerge(t *testing.T) {
	for _, c := range []struct {
		l    []api.Set
		text string
		e    api.Errno
	}{
		{nil, "", api.OK},
		{[]api.Set{{}, {}}, "", api.OK},
		{[]api.Set{scaled("BINARY FIXED", 5, 2)}, "BINARY FIXED(5,2)", api.OK},
		{[]api.Set{shown("PICTURE", "9")}, "PICTURE'9'", api.OK},
		{[]api.Set{of("FIXED", 7), words("BINARY STATIC")}, "BINARY FIXED(7) STATIC", api.OK},
		{[]api.Set{words("FIXED"), words("BINARY"), scaled("", 7, 1), words("INITIAL")}, "BINARY FIXED(7,1) INITIAL", api.OK},
		{[]api.Set{words("STATIC"), long("CHARACTER VARYING", 0), words("INITIAL")}, "CHARACTER(0) INITIAL STATIC VARYING", api.OK},
		{[]api.Set{words("STATIC"), shown("PICTURE", "X")}, "PICTURE'X' STATIC", api.OK},
		{[]api.Set{words("FIXED"), words("FIXED")}, "", api.ErrDuplicate},
		{[]api.Set{words("FIXED"), {}, words("FIXED")}, "", api.ErrDuplicate},
		{[]api.Set{of("", 5), of("", 5)}, "", api.ErrDuplicate},
		{[]api.Set{of("FIXED", 5), scaled("BINARY", 0, 0)}, "", api.ErrDuplicate},
		{[]api.Set{of("FLOAT", 5), scaled("", 5, 1)}, "", api.ErrDuplicate},
		{[]api.Set{scaled("", 5, 1), of("FLOAT", 5)}, "", api.ErrKind},
		{[]api.Set{words("FLOAT"), scaled("", 5, 1)}, "", api.ErrKind},
		{[]api.Set{words("FLOAT"), of("", 5)}, "FLOAT(5)", api.OK},
		{[]api.Set{scaled("", 5, 0), words("FLOAT")}, "", api.ErrKind},
		{[]api.Set{long("BIT", 5), long("BIT", 5)}, "", api.ErrDuplicate},
		{[]api.Set{long("BIT", 5), long("CHARACTER", 5)}, "", api.ErrKind},
		{[]api.Set{words("BIT"), words("BIT VARYING")}, "", api.ErrDuplicate},
		{[]api.Set{words("BIT"), words("CHARACTER VARYING")}, "", api.ErrKind},
		{[]api.Set{shown("PICTURE", "9"), shown("PICTURE", "X")}, "", api.ErrDuplicate},
		{[]api.Set{of("", 5), shown("PICTURE", "X")}, "", api.ErrKind},
		{[]api.Set{shown("PICTURE", "X"), of("", 5)}, "", api.ErrKind},
		{[]api.Set{of("", 5), words("BIT")}, "", api.ErrKind},
		{[]api.Set{words("BIT"), of("", 5)}, "", api.ErrKind},
		{[]api.Set{words("FILE"), of("", 5)}, "", api.ErrKind},
		// Word by word: the first one that can't be decides.
		{[]api.Set{words("FIXED STATIC"), words("AUTOMATIC FIXED")}, "", api.ErrKind},
		{[]api.Set{words("AUTOMATIC FIXED"), words("FIXED STATIC")}, "", api.ErrDuplicate},
		{[]api.Set{words("FIXED STATIC"), words("FLOAT STATIC")}, "", api.ErrKind},
		{[]api.Set{words("BINARY FIXED"), words("BINARY FLOAT")}, "", api.ErrDuplicate},
		{[]api.Set{words("FIXED"), words("STATIC"), words("FLOAT"), words("FIXED")}, "", api.ErrKind},
		{[]api.Set{of("FIXED", 5), of("FLOAT", 5)}, "", api.ErrKind},
	} {
		s, e := attr.Merge(c.l)
		if text, _ := attr.Text(s); text != c.text || e != c.e || e != api.OK && !isEmpty(s) {
			t.Errorf("%v: %q, %d", c.l, text, e)
		}
	}
}

func TestStorage(t *testing.T) {
	for list, want := range map[string]string{
		"": "", "FIXED": "", "FILE": "", "INITIAL": "", "AUTOMATIC": "AUTOMATIC", "STATIC": "STATIC", "BASED": "BASED", "CONTROLLED": "CONTROLLED",
		"BINARY FIXED INITIAL STATIC": "STATIC", "AUTOMATIC BIT VARYING": "AUTOMATIC", "BASED POINTER": "BASED", "CONTROLLED LABEL": "CONTROLLED",
	} {
		if got, e := attr.Storage(words(list)); got != want || e != api.OK {
			t.Errorf("%q: %q, %d", list, got, e)
		}
	}
}

func TestText(t *testing.T) {
	for want, s := range map[string]api.Set{
		"":                                   {},
		"(5)":                                of("", 5),
		"(0)":                                of("", 0),
		"(31,31)":                            scaled("", 31, 31),
		"(5,0) STATIC":                       scaled("STATIC", 5, 0),
		"(5) AUTOMATIC INITIAL":              of("AUTOMATIC INITIAL", 5),
		"FIXED":                              words("FIXED"),
		"BINARY(5)":                          of("BINARY", 5),
		"BINARY(5,2)":                        scaled("BINARY", 5, 2),
		"BINARY CONTROLLED FIXED(10,2)":      scaled("BINARY CONTROLLED FIXED", 10, 2),
		"AUTOMATIC DECIMAL FLOAT(6)":         of("AUTOMATIC DECIMAL FLOAT", 6),
		"BASED DECIMAL(7)":                   of("BASED DECIMAL", 7),
		"AUTOMATIC BIT(8) INITIAL VARYING":   long("AUTOMATIC BIT INITIAL VARYING", 8),
		"CHARACTER(250)":                     long("CHARACTER", 250),
		"CHARACTER VARYING":                  words("CHARACTER VARYING"),
		"BIT(0)":                             long("BIT", 0),
		"PICTURE'99V.9' STATIC":              shown("PICTURE STATIC", "99V.9"),
		"AUTOMATIC PICTURE''''":              shown("AUTOMATIC PICTURE", "'"),
		"PICTURE'it''s'' ''''x'":             shown("PICTURE", "it's' ''x"),
		"PICTURE'BIT(5) PICTURE (3)'":        shown("PICTURE", "BIT(5) PICTURE (3)"),
		"FILE":                               words("FILE"),
		"INITIAL LABEL STATIC":               words("INITIAL LABEL STATIC"),
		"PICTURE' '":                         shown("PICTURE", " "),
		"CONTROLLED INITIAL PICTURE'\n\xff'": shown("CONTROLLED INITIAL PICTURE", "\n\xff"),
	} {
		if text, e := attr.Text(s); text != want || e != api.OK {
			t.Errorf("%v: %q, %d", s, text, e)
		}
		if back, e := attr.Read(want); !same(back, s) || e != api.OK {
			t.Errorf("%q: %v, %d", want, back, e)
		}
	}
}

func TestReadErrors(t *testing.T) {
	for _, text := range []string{
		" ", "FOO", "fixed", "FIXED ", " FIXED", "BIN", "FIXED BINARY", "BINARY  FIXED", "BINARY\tFIXED", "BINARY,FIXED", "BINARY FIXED FIXED", "FIXED FLOAT",
		"FIXED (5)", "FIXED( 5)", "FIXED(5 )", "FIXED(5, 2)", "FIXED(05)", "FIXED(+5)", "FIXED(-5)", "FIXED()", "FIXED(5", "FIXED(5))", "FIXED(5,)", "FIXED(,5)", "FIXED(5,2,1)",
		"FIXED(32)", "FIXED(5,32)", "FIXED(99999999999999999999)", "FIXED(5)(5)", "BINARY(5) FIXED", "BINARY(5) FIXED(5)", "FLOAT(5,2)", "FLOAT(5,0)", "(5)FIXED", "(5) FIXED", "(5) BIT",
		"STATIC(5)", "STATIC (5)", "(5)(5)", "(5) (5)", "()", "(", ")", "(5", "5)", "5", ",", "(5),", "(5,2) ", "BIT(251)", "BIT(5,0)", "BIT (5)", "BIT(08)", "BIT()", "VARYING", "BIT VARYING(5)", "FILE(5)",
		"PICTURE", "PICTURE''", "PICTURE'9", "PICTURE9'", "PICTURE '9'", "PICTURE'9''", "PICTURE'9'9'", "PICTURE\"9\"", "'9'PICTURE", "'9'", "BIT'9'", "PICTURE'9'STATIC", "PICTURE(5)'9'", "PICTURE'9'(5)",
		"PICTURE'" + strings.Repeat("9", 81) + "'", "STATIC PICTURE'9'", "PIC'9'", "AUTOMATIC STATIC", "BASED INITIAL", "FILE STATIC", "'", "''", "PIC'9'TURE", "FIXED\n", "FIXED\x00",
		strings.Repeat("FIXED ", 100000), strings.Repeat("(", 100000), strings.Repeat("'", 100001),
	} {
		if s, e := attr.Read(text); !isEmpty(s) || e != api.ErrSyntax {
			t.Errorf("%.40q: %v, %d", text, s, e)
		}
	}
}
