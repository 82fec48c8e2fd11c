package rule_test

import (
	"math/rand"
	"slices"
	"strings"
	"testing"

	"ironbark/api"
	"ironbark/digit"
	"ironbark/rule"
)

type written struct {
	t api.Type
	s string
}

func writtenTypes() []written {
	return []written{
		{bin(15, 0), "FIXED BIN(15,0)"}, {bin(31, 31), "FIXED BIN(31,31)"}, {dec(5, 2), "FIXED DEC(5,2)"}, {dec(15, 0), "FIXED DEC(15,0)"}, {float(6), "FLOAT DEC(6)"}, {float(15), "FLOAT DEC(15)"},
		{char(0, false), "CHAR(0)"}, {char(250, false), "CHAR(250)"}, {char(5, true), "CHAR(5) VAR"}, {bit(1, false), "BIT(1)"}, {bit(8, true), "BIT(8) VAR"}, {bit(0, true), "BIT(0) VAR"},
		{pic("999V.99"), "PIC'999V.99'"}, {pic("9'9"), "PIC'9''9'"}, {pic("'"), "PIC''''"}, {pic("''"), "PIC''''''"}, {pic(" "), "PIC' '"}, {pic("\xff\n"), "PIC'\xff\n'"}, {pic(strings.Repeat("'", 80)), "PIC'" + strings.Repeat("'", 160) + "'"},
		{plain(api.TPtr), "PTR"}, {plain(api.TLabel), "LABEL"}, {plain(api.TEntry), "ENTRY"},
	}
}

func TestText(t *testing.T) {
	for _, x := range writtenTypes() {
		if s, e := rule.Text(x.t); s != x.s || e != api.OK {
			t.Errorf("Text(%+v) = %q, %d; want %q", x.t, s, e, x.s)
		}
	}
	for _, x := range wrongTypes() {
		if s, e := rule.Text(x); s != "" || e != api.ErrType {
			t.Errorf("Text(%+v) = %q, %d", x, s, e)
		}
	}
}

func TestRead(t *testing.T) {
	for _, x := range writtenTypes() {
		if r, e := rule.Read(x.s); r != x.t || e != api.OK {
			t.Errorf("Read(%q) = %+v, %d; want %+v", x.s, r, e, x.t)
		}
	}
}

func TestReadErrors(t *testing.T) {
	for _, s := range []string{
		"", " ", "FIXED", "FIXED BIN", "FIXED BIN()", "FIXED BIN(,)", "FIXED BIN(5)", "FIXED DEC(5)", "FIXED DEC(5,)", "FIXED DEC(,2)", "FIXED DEC(5,2", "FIXED DEC 5,2)", "FIXED DEC(5,2,1)", "FIXED DEC((5,2))", "FIXED DEC(5,2))", "FIXED DEC(5,2)(5,2)",
		"FIXED DEC(5, 2)", "FIXED DEC( 5,2)", "FIXED DEC (5,2)", "FIXED  DEC(5,2)", " FIXED DEC(5,2)", "FIXED DEC(5,2) ", "FIXEDDEC(5,2)", "DEC(5,2)", "DEC FIXED(5,2)", "FIXED DECIMAL(5,2)", "FIXED BINARY(5,2)", "fixed dec(5,2)", "Fixed Dec(5,2)",
		"FIXED DEC(05,2)", "FIXED DEC(5,02)", "FIXED DEC(+5,2)", "FIXED DEC(5,-0)", "FIXED DEC(5,-1)", "FIXED DEC(5,x)", "FIXED DEC(5,2.0)", "FIXED DEC(0x5,2)", "FIXED DEC(1_0,2)", "FIXED DEC(5;2)",
		"FIXED DEC(0,0)", "FIXED DEC(16,0)", "FIXED DEC(15,32)", "FIXED BIN(0,0)", "FIXED BIN(32,0)", "FIXED BIN(31,32)", "FIXED BIN(99999999999999999999,0)", "FIXED BIN(5,18446744073709551616)", "FIXED DEC(5,2) VAR",
		"FLOAT", "FLOAT DEC", "FLOAT DEC()", "FLOAT DEC(0)", "FLOAT DEC(16)", "FLOAT DEC(06)", "FLOAT DEC(6,0)", "FLOAT BIN(6)", "FLOAT DEC(6) VAR", "FLOAT(6)",
		"CHAR", "CHAR()", "CHAR(251)", "CHAR(-1)", "CHAR(05)", "CHAR(+5)", "CHAR(5)VAR", "CHAR(5)  VAR", "CHAR(5) VAR ", "CHAR(5) VAR VAR", "CHAR(5) VARYING", "CHAR(5) var", "CHAR VAR", "CHAR5", "CHAR(5,0)", "CHARACTER(5)", "CHAR (5)", "char(5)", "CHAR(x)", "CHAR(x) VAR",
		"BIT", "BIT(251)", "BIT(00)", "BIT(1)VAR", "BIT(-0)", "BIT(1 )", "BITS(1)",
		"PIC", "PIC'", "PIC''", "PIC'''", "PIC'''''", "PIC'9", "PIC9'", "PIC9", "PIC'9'9'", "PIC'9'' '9'", "PIC '9'", "PIC'9' ", "PIC'9'x", "pic'9'", "PICTURE'9'", "PIC\"9\"", "PIC'" + strings.Repeat("9", 81) + "'", "PIC'" + strings.Repeat("'", 162) + "'",
		"PTR ", " PTR", "PTR()", "PTR(1)", "POINTER", "ptr", "LABEL ", "LABELS", "LABEL()", "ENTRY()", "ENTRY ", "entry", "PTRPTR", "FILE", "\x00", "\xff", strings.Repeat("CHAR(5)", 3000), "CHAR(" + strings.Repeat("9", 50000) + ")",
	} {
		if r, e := rule.Read(s); r != (api.Type{}) || e != api.ErrSyntax {
			t.Errorf("Read(%q) = %+v, %d", s, r, e)
		}
	}
}

// P2.4: every type is read from its text, and no two have the same one.
func TestBack(t *testing.T) {
	seen := map[string]api.Type{}
	for _, x := range slices.Concat(numberTypes(), stringTypes(), pictureTypes(), plainTypes()) {
		s, e := rule.Text(x)
		if e != api.OK {
			t.Fatalf("Text(%+v): %d", x, e)
		}
		if r, e := rule.Read(s); r != x || e != api.OK {
			t.Fatalf("%+v is %q is %+v, %d", x, s, r, e)
		}
		if y, is := seen[s]; is {
			t.Fatalf("%+v and %+v are both %q", x, y, s)
		}
		seen[s] = x
	}
}

// Whatever is read is valid, and is written as it stood.
func TestReadAnything(t *testing.T) {
	r, l := rand.New(rand.NewSource(2)), writtenTypes()
	read := 0
	for range 50000 {
		b := []byte(l[r.Intn(len(l))].s)
		for range r.Intn(3) {
			at := r.Intn(len(b))
			piece := "0123456789(), 'VARBITDECx"[r.Intn(25)]
			if r.Intn(2) == 0 {
				b[at] = piece
			} else {
				b = slices.Insert(b, at, piece)
			}
		}
		x, e := rule.Read(string(b))
		if e != api.OK {
			if x != (api.Type{}) || e != api.ErrSyntax {
				t.Fatalf("Read(%q) = %+v, %d", b, x, e)
			}
			continue
		}
		read++
		if s, e := rule.Text(x); !digit.Valid(x) || s != string(b) || e != api.OK {
			t.Fatalf("%q is read as %+v, which is %q, %d", b, x, s, e)
		}
	}
	if read < 1000 {
		t.Errorf("only %d read", read)
	}
}
