package picture_test

import (
	"math/rand"
	"regexp"
	"strings"
	"testing"

	"ironbark/api"
	"ironbark/picture"
)

// Rows are symbols by their letters, C for CR and D for DB.

// spelled is a row as the text of a picture.
func spelled(row string) string { return strings.NewReplacer("C", "CR", "D", "DB").Replace(row) }

// eachRow does a check with all rows of some letters up to a length.
func eachRow(letters string, longest int, check func(row string)) {
	rows := []string{""}
	for range longest {
		var longer []string
		for _, row := range rows {
			for _, letter := range letters {
				longer = append(longer, row+string(letter))
				check(row + string(letter))
			}
		}
		rows = longer
	}
}

// bodies are all rows of digit symbols (of a run the first one, too) up to a length, without insertions and V. What drifts is told; "": nothing.
func bodies(drifting string, longest int) []string {
	var l []string
	for length := 1; length <= longest; length++ {
		for front := range length + 1 {
			nines := many("9", length-front)
			switch {
			case drifting == "":
				l = append(l, many("Z", front)+nines, many("*", front)+nines)
			case front > 1:
				l = append(l, many(drifting, front)+nines)
			}
		}
	}
	return l
}

// sides are how static symbols stand ahead of the digits and behind them, in any order.
func sides(static string) [][2]string {
	if static == "" {
		return [][2]string{{"", ""}}
	}
	var l [][2]string
	for _, x := range sides(static[1:]) {
		for side, row := range x {
			if side == 0 && (static[0] == 'C' || static[0] == 'D') {
				continue
			}
			for at := range len(row) + 1 {
				y := x
				y[side] = row[:at] + static[:1] + row[at:]
				l = append(l, y)
			}
		}
	}
	return l
}

// pointed are a row of static symbols around a body as it is, and with V at each place that the body allows.
func pointed(x [2]string, body, drifting string) []string {
	row := x[0] + body + x[1]
	l := []string{row}
	for at := range len(row) + 1 {
		behind := body[min(len(body), max(0, at-len(x[0]))):]
		mixed := strings.ContainsAny(behind, "Z*") && strings.Contains(body, "9")
		if !mixed && (drifting == "" || !strings.Contains(behind, drifting)) {
			l = append(l, row[:at]+"V"+row[at:])
		}
	}
	return l
}

// allowedRows builds the rows of numeric pictures that the rules allow, without insertions: with one of the signs or none, or with CR or DB, and with $ or not; one of them may drift.
func allowedRows(longest int) map[string]bool {
	rows := map[string]bool{}
	for _, static := range []string{"", "S", "+", "-", "C", "D", "$", "S$", "+$", "-$", "C$", "D$"} {
		for _, drifting := range []string{"", "S", "+", "-", "$"} {
			if !strings.Contains(static, drifting) {
				continue
			}
			rest := strings.Replace(static, drifting, "", 1)
			for _, body := range bodies(drifting, longest) {
				for _, x := range sides(rest) {
					for _, row := range pointed(x, body, drifting) {
						rows[row] = true
					}
				}
			}
		}
	}
	return rows
}

var (
	ofCharacters = regexp.MustCompile(`^[AX9]*[AX][AX9]*$`)
	insertion    = regexp.MustCompile(`[.,/B]`)
)

// rules asks about short rows, which never have too many symbols.
type rules struct{ rows map[string]bool }

func newRules(longest int) rules { return rules{allowedRows(longest)} }

func (r rules) allow(row string) bool {
	return ofCharacters.MatchString(row) || r.rows[insertion.ReplaceAllString(row, "")]
}

// 7.1: Parse takes just the pictures that the rules allow.
func TestAllowed(t *testing.T) {
	t.Parallel()
	allowed, all := 0, 0
	r := newRules(6)
	check := func(row string) {
		all++
		want := api.ErrSyntax
		if r.allow(row) {
			allowed++
			want = api.OK
		}
		p, at, e := picture.Parse(spelled(row))
		if e != want || at != 0 || e != api.OK && p != (picture.Picture{}) {
			t.Fatalf("Parse(%q) = %+v, %d, %d", spelled(row), p, at, e)
		}
	}
	eachRow("9Z*V.BS+-$CDAX", 4, check)
	eachRow("9Z*V,-$C", 5, check)
	eachRow("9VZ/S$", 6, check)
	if allowed < 5000 || all < 5*allowed {
		t.Errorf("%d pictures of %d rows", allowed, all)
	}
}

// 7.1: the same of long rows.
func TestAllowedLong(t *testing.T) {
	t.Parallel()
	r, rules := rand.New(rand.NewSource(10)), newRules(16)
	seen := map[bool]int{}
	for range 20000 {
		row := someRow(r)
		want := rules.allow(row)
		checkHowMany(t, spelled(row), want)
		seen[want]++
	}
	if seen[true] < 4000 || seen[false] < 4000 {
		t.Errorf("%v", seen)
	}
}

// 7.1: how many symbols and digits there may be.
func TestHowManySymbols(t *testing.T) {
	for n := 1; n <= 60; n++ {
		checkHowMany(t, many("9", n), n <= 15)
		checkHowMany(t, many("Z", n), n <= 15)
		checkHowMany(t, many("9", n/2)+"V"+many("9", n-n/2), n <= 15)
		checkHowMany(t, many("$", n), n >= 2 && n <= 16)
		checkHowMany(t, "-"+many("$", n)+"9V9", n <= 14)
		checkHowMany(t, "9"+many("B", n), n <= 39)
		checkHowMany(t, many("B", n)+"9VCR", n <= 37)
		checkHowMany(t, many("X", n), n <= 40)
		checkHowMany(t, many("9", n)+"A", n <= 39)
	}
}

func checkHowMany(t *testing.T, text string, allowed bool) {
	t.Helper()
	if _, at, e := picture.Parse(text); at != 0 || (e == api.OK) != allowed || !allowed && e != api.ErrSyntax {
		t.Errorf("Parse(%q): %d, %d", text, at, e)
	}
}
