package token_test

import (
	"math"
	"strings"
	"testing"

	"ironbark/api"
	"ironbark/token"
)

func checkShow(t *testing.T, want string, briefs ...string) {
	t.Helper()
	l := row(briefs...)
	for at := range l {
		l[at].At = 1000 - 3*at // means nothing
	}
	got, e := token.Show(l)
	if got != want || e != api.OK {
		t.Errorf("Show(%q) = %q, %d; want %q", briefs, got, e, want)
	}
	if again, at, e := token.Scan(got); !alike(again, l) || at != 0 || e != api.OK {
		t.Errorf("Scan(%q) = %q, %d, %d; want %q", got, brief(again), at, e, briefs)
	}
}

func refusesShow(t *testing.T, l []api.Token, want api.Errno) {
	t.Helper()
	if got, e := token.Show(l); got != "" || e != want {
		t.Errorf("Show of %d = %.50q, %d; want %d", len(l), got, e, want)
	}
}

func TestShowOne(t *testing.T) {
	checkShow(t, "")
	checkShow(t, "A", "N:A")
	checkShow(t, "1.50E-02", "D:1.50E-02")
	checkShow(t, "007.", "D:007.")
	checkShow(t, "1B", "D:1B")
	checkShow(t, "'it''s'", "C:it's")
	checkShow(t, "''", "C:")
	checkShow(t, "''''", "C:'")
	checkShow(t, "'aB'", "C:aB")
	checkShow(t, "''B", "B:")
	checkShow(t, "'1111'B", "B:1111")
	checkShow(t, "**", "O:**")
	for _, x := range rightTokens() {
		checkShow(t, shown(x), string(kinds[x.Kind])+":"+x.Text)
	}
}

// shown is a token by itself.
func shown(x api.Token) string {
	switch x.Kind {
	case api.KChar:
		return "'" + strings.Join(strings.Split(x.Text, "'"), "''") + "'"
	case api.KBits:
		return "'" + x.Text + "'B"
	}
	return x.Text
}

func TestShowBlanks(t *testing.T) {
	checkShow(t, "A B", "N:A", "N:B")
	checkShow(t, "A = 1;", "N:A", "O:=", "D:1", "O:;")
	checkShow(t, "F(A, B): F(", "N:F", "O:(", "N:A", "O:,", "N:B", "O:)", "O::", "N:F", "O:(")
	checkShow(t, "S.A.B", "N:S", "O:.", "N:A", "O:.", "N:B")
	checkShow(t, "P -> Q ** 2 || 'A'", "N:P", "O:->", "N:Q", "O:**", "D:2", "O:||", "C:A")
	checkShow(t, "(- 1)", "O:(", "O:-", "D:1", "O:)")
	checkShow(t, "((A)) (B)", "O:(", "O:(", "N:A", "O:)", "O:)", "O:(", "N:B", "O:)")
	checkShow(t, "1 (2)", "D:1", "O:(", "D:2", "O:)")
	checkShow(t, "'A' (2)", "C:A", "O:(", "D:2", "O:)")
	checkShow(t, "'1'B (2)", "B:1", "O:(", "D:2", "O:)")
	checkShow(t, "* (2)", "O:*", "O:(", "D:2", "O:)")
	checkShow(t, "% INCLUDE A;", "O:%", "N:INCLUDE", "N:A", "O:;")
	checkShow(t, "A: 1;;", "N:A", "O::", "D:1", "O:;", "O:;")
	checkShow(t, "* / / * - > < =", "O:*", "O:/", "O:/", "O:*", "O:-", "O:>", "O:<", "O:=")
	// Characters that look like an operator are none.
	checkShow(t, "A ','", "N:A", "C:,")
	checkShow(t, "'(' A", "C:(", "N:A")
	checkShow(t, "'.' 'A'", "C:.", "C:A")
	checkShow(t, "A '('", "N:A", "C:(")
}

// Where tokens would be read otherwise, there is a blank all the same.
func TestShowPoints(t *testing.T) {
	checkShow(t, "F(1 . 5);", "N:F", "O:(", "D:1", "O:.", "D:5", "O:)", "O:;")
	checkShow(t, "1 .A", "D:1", "O:.", "N:A")
	checkShow(t, "007 .", "D:007", "O:.")
	checkShow(t, "1..", "D:1.", "O:.")
	checkShow(t, "1.5.", "D:1.5", "O:.")
	checkShow(t, ".5. 5", "D:.5", "O:.", "D:5")
	checkShow(t, "1E5.", "D:1E5", "O:.")
	checkShow(t, "1B.B", "D:1B", "O:.", "N:B")
	checkShow(t, ". 5", "O:.", "D:5")
	checkShow(t, ". 5.", "O:.", "D:5.")
	checkShow(t, ". 1B", "O:.", "D:1B")
	checkShow(t, "..5", "O:.", "D:.5")
	checkShow(t, "...5E1", "O:.", "O:.", "D:.5E1")
	checkShow(t, "1...5", "D:1.", "O:.", "D:.5")
	checkShow(t, "A. 5", "N:A", "O:.", "D:5")
	checkShow(t, "A .5", "N:A", "D:.5")
	checkShow(t, "1. .5", "D:1.", "D:.5")
	checkShow(t, "(.5)", "O:(", "D:.5", "O:)")
	checkShow(t, ".A", "O:.", "N:A")
	checkShow(t, ".'A'.'1'B.", "O:.", "C:A", "O:.", "B:1", "O:.")
	checkShow(t, "1:", "D:1", "O::")
}

// isWhole reports whether a token is a number of digits alone.
func isWhole(x api.Token) bool {
	return x.Kind == api.KNum && strings.Trim(x.Text, "0123456789") == ""
}

// blankBetween is what the chapter says of a blank between two tokens.
func blankBetween(a, b api.Token) bool {
	isPoint := func(x api.Token) bool { return x.Kind == api.KPunct && x.Text == "." }
	switch {
	case isPoint(b) && isWhole(a), isPoint(a) && b.Kind == api.KNum && b.Text[0] != '.':
		return true
	case b.Kind == api.KPunct && strings.Contains(", ; ) : .", b.Text):
		return false
	case a.Kind == api.KPunct && strings.Contains("( .", a.Text):
		return false
	case a.Kind == api.KName && b.Kind == api.KPunct && b.Text == "(":
		return false
	}
	return true
}

// Each token behind each other one.
func TestShowPairs(t *testing.T) {
	for _, a := range rightTokens() {
		for _, b := range rightTokens() {
			want := shown(a) + shown(b)
			if blankBetween(a, b) {
				want = shown(a) + " " + shown(b)
			}
			if len(want) > api.MaxText {
				refusesShow(t, []api.Token{a, b}, api.ErrLong)
			} else {
				checkShow(t, want, brief([]api.Token{a})[0], brief([]api.Token{b})[0])
			}
		}
	}
}

// Two neighbours alone decide: of three tokens the blanks are those of both pairs, and all three are read again.
func TestShowTriples(t *testing.T) {
	var l []api.Token
	for _, x := range rightTokens() {
		if len(x.Text) < 10 {
			l = append(l, x)
		}
	}
	for _, a := range l {
		for _, b := range l {
			ahead, _ := token.Show([]api.Token{a, b})
			for _, c := range l {
				behind, _ := token.Show([]api.Token{b, c})
				got, e := token.Show([]api.Token{a, b, c})
				if got != ahead+strings.TrimPrefix(behind, shown(b)) || e != api.OK {
					t.Fatalf("Show = %q, %d; its pairs are %q and %q", got, e, ahead, behind)
				}
				if again, _, e := token.Scan(got); !alike(again, []api.Token{a, b, c}) || e != api.OK {
					t.Fatalf("Scan(%q) = %q, %d", got, brief(again), e)
				}
			}
		}
	}
}

func TestShowRefuses(t *testing.T) {
	right := row("N:A", "O:=")
	for _, x := range wrongTokens() {
		refusesShow(t, []api.Token{x}, api.ErrInvalid)
		refusesShow(t, append(right[:2:2], x), api.ErrInvalid)
		refusesShow(t, append([]api.Token{x}, right...), api.ErrInvalid)
	}
	var l []api.Token
	for range 10000 {
		l = append(l, made("N:A"))
	}
	if got, e := token.Show(l); len(got) != 19999 || e != api.OK {
		t.Errorf("Show = %d bytes, %d", len(got), e)
	}
	l[0] = made("N:AB")
	if got, e := token.Show(l); len(got) != 20000 || e != api.OK {
		t.Errorf("Show = %d bytes, %d", len(got), e)
	}
	l[9999] = made("N:AB")
	refusesShow(t, l, api.ErrLong)
	refusesShow(t, append(l, made("N:A")), api.ErrLong)
	// A token that is not valid is asked first, also far behind.
	refusesShow(t, append(l, made("N:a")), api.ErrInvalid)
	// A blank that must be counts, too.
	whole := "D:" + many("1", 19998)
	checkShow(t, many("1", 19998)+" .", whole, "O:.")
	refusesShow(t, row(whole+"1", "O:."), api.ErrLong)
	checkShow(t, many("1", 19998)+".,", whole+".", "O:,")
	checkShow(t, many("1", 19998)+"..", whole+".", "O:.")
	refusesShow(t, row(whole+".", "O:.", "O:."), api.ErrLong)
}

func TestPlace(t *testing.T) {
	for _, x := range []struct {
		text             string
		at, line, column int
	}{
		{"", 0, 1, 1}, {"a", 0, 1, 1}, {"a", 1, 1, 2}, {"abc", 2, 1, 3}, {"\n", 0, 1, 1}, {"\n", 1, 2, 1}, {"\n\n", 1, 2, 1}, {"\n\n", 2, 3, 1},
		{"a\nbc\n", 0, 1, 1}, {"a\nbc\n", 1, 1, 2}, {"a\nbc\n", 2, 2, 1}, {"a\nbc\n", 3, 2, 2}, {"a\nbc\n", 4, 2, 3}, {"a\nbc\n", 5, 3, 1},
		{"\ta", 1, 1, 2}, {"\r\na", 2, 2, 1}, {"a\rb", 2, 1, 3}, {"é\né", 2, 1, 3}, {"é\né", 5, 2, 3}, {"\x80\x00\n", 2, 1, 3}, {"'\n'", 2, 2, 1},
		{many("x", 20000), 20000, 1, 20001}, {many("\n", 20000), 20000, 20001, 1}, {many("\n", 20000), 19999, 20000, 1},
	} {
		if line, column, e := token.Place(x.text, x.at); line != x.line || column != x.column || e != api.OK {
			t.Errorf("Place(%.20q, %d) = %d, %d, %d; want %d, %d", x.text, x.at, line, column, e, x.line, x.column)
		}
	}
	for _, x := range []struct {
		text string
		at   int
		want api.Errno
	}{
		{"", -1, api.ErrRange}, {"", 1, api.ErrRange}, {"a", 2, api.ErrRange}, {"a", -1, api.ErrRange}, {"a\n", 3, api.ErrRange}, {"a", math.MaxInt, api.ErrRange}, {"a", math.MinInt, api.ErrRange},
		{many("x", 20000), 20001, api.ErrRange}, {many("x", 20001), 0, api.ErrLong}, {many("x", 20001), 20001, api.ErrLong}, {many("x", 20001), -1, api.ErrLong}, {many("x", 20001), 20002, api.ErrLong},
	} {
		if line, column, e := token.Place(x.text, x.at); line != 0 || column != 0 || e != x.want {
			t.Errorf("Place(%.20q, %d) = %d, %d, %d; want %d", x.text, x.at, line, column, e, x.want)
		}
	}
}
