package token_test

import (
	"math/rand"
	"regexp"
	"slices"
	"strings"
	"testing"

	"ironbark/api"
	"ironbark/token"
)

// A second scanner, by patterns.

var (
	nameThere     = regexp.MustCompile(`^[A-Za-z$#@][A-Za-z0-9_$#@]*`)
	numberThere   = regexp.MustCompile(`^([0-9]+\.?[0-9]*|\.[0-9]+)([Ee][+-]?[0-9][0-9]?|[Bb])?`)
	binaryThere   = regexp.MustCompile(`^[01]*\.?[01]*[Bb]$`)
	quotedThere   = regexp.MustCompile(`^'([ -&(-~]|'')*`)
	operatorThere = regexp.MustCompile(`^(\*\*|\|\||\^=|\^<|\^>|<=|>=|->|[-+*/=<>&|^(),;:.%])`)
	commentThere  = regexp.MustCompile(`^/\*([\n\t -)+-~]|\*+[\n\t -)+-.0-~])*`)
	endThere      = regexp.MustCompile(`^\*+/`)
	blanksThere   = regexp.MustCompile(`^[ \t\n]+`)
	goesOn        = regexp.MustCompile(`^[A-Za-z0-9_$#@]`)
	noSource      = regexp.MustCompile(`^[^\n\t -~]`)
	hexThere      = regexp.MustCompile(`^[0-9A-Fa-f]*$`)
	bitsThere     = regexp.MustCompile(`^[01]*$`)
)

// length is how many bytes of a text a pattern has at a place.
func length(pattern *regexp.Regexp, text []byte, at int) int { return len(pattern.Find(text[at:])) }

// secondScan is the tokens of a text, or the place at which it is wrong, or -1.
func secondScan(s string) ([]api.Token, int) {
	var l []api.Token
	text := []byte(s)
	for at := 0; at < len(text); {
		if n := length(blanksThere, text, at); n > 0 {
			at += n
			continue
		}
		if n := length(commentThere, text, at); n > 0 {
			end := length(endThere, text, at+n)
			if end == 0 {
				return nil, unended(text, at, at+n)
			}
			at += n + end
			continue
		}
		x, n, wrong := secondToken(text, at)
		if wrong >= 0 {
			return nil, wrong
		}
		x.At = at
		l = append(l, x)
		at += n
	}
	return l, -1
}

// unended is where it is wrong what begins at a place and does not go on at another one: stars may stand there still.
func unended(text []byte, begin, at int) int {
	for at < len(text) && text[at] == '*' {
		at++
	}
	if length(noSource, text, at) > 0 {
		return at
	}
	return begin
}

func secondToken(text []byte, at int) (x api.Token, n, wrong int) {
	upper := func() string { return strings.ToUpper(string(text[at : at+n])) }
	if n = length(nameThere, text, at); n > 0 {
		if n > 31 {
			return x, 0, at
		}
		return api.Token{Kind: api.KName, Text: upper()}, n, -1
	}
	if n = length(numberThere, text, at); n > 0 {
		if strings.HasSuffix(upper(), "B") && !binaryThere.MatchString(upper()) || length(goesOn, text, at+n) > 0 {
			return x, 0, at
		}
		return api.Token{Kind: api.KNum, Text: upper()}, n, -1
	}
	if n = length(quotedThere, text, at); n > 0 {
		return secondQuoted(text, at, n)
	}
	if n = length(operatorThere, text, at); n > 0 {
		return api.Token{Kind: api.KPunct, Text: upper()}, n, -1
	}
	return x, 0, at
}

// secondQuoted is a constant of which the pattern has so many bytes: all but the quote at its end.
func secondQuoted(text []byte, at, n int) (x api.Token, _, wrong int) {
	if length(noSource, text, at+n) > 0 && len(strings.ReplaceAll(string(text[at+1:at+n]), "''", "'")) <= 250 {
		return x, 0, at + n
	}
	if at+n == len(text) || text[at+n] != '\'' {
		return x, 0, at
	}
	inside := strings.ReplaceAll(string(text[at+1:at+n]), "''", "'")
	n++
	behind := strings.ToUpper(string(text[at+n:]))
	pattern := bitsThere
	switch {
	case len(inside) > 250:
		return x, 0, at
	case !strings.HasPrefix(behind, "B"):
		return api.Token{Kind: api.KChar, Text: inside}, n, -1
	case strings.HasPrefix(behind, "B4"):
		n, pattern = n+2, hexThere
	default:
		n++
	}
	if !pattern.MatchString(inside) || length(goesOn, text, at+n) > 0 {
		return x, 0, at
	}
	if pattern == hexThere {
		inside = unfolded(inside)
	}
	if len(inside) > 250 {
		return x, 0, at
	}
	return api.Token{Kind: api.KBits, Text: inside}, n, -1
}

// unfolded is four bits for each hexadecimal digit.
func unfolded(digits string) string {
	bits := ""
	for _, digit := range strings.ToUpper(digits) {
		n := strings.IndexRune("0123456789ABCDEF", digit)
		for _, weight := range []int{8, 4, 2, 1} {
			bits += string("01"[n/weight%2])
		}
	}
	return bits
}

// checkSecond holds a scan against the second scanner's, and reports whether the text is right.
func checkSecond(t *testing.T, text string) bool {
	t.Helper()
	want, wrong := secondScan(text)
	l, at, e := token.Scan(text)
	switch {
	case wrong >= 0 && (len(l) != 0 || at != wrong || e != api.ErrSyntax):
		t.Fatalf("Scan(%q) = %q, %d, %d; want it wrong at %d", text, brief(l), at, e, wrong)
	case wrong < 0 && (!slices.Equal(l, want) || at != 0 || e != api.OK):
		t.Fatalf("Scan(%q) = %v, %d, %d; want %v", text, l, at, e, want)
	}
	return wrong < 0
}

// All short texts of the bytes that matter to each other.
func TestAllShortTexts(t *testing.T) {
	for _, bytes := range []string{"1.EB+4 ", "7.eb-_A", "'1B4a2 ", "'\n\x80Bb0", "/*' \x01\n", "/*-><=^", ".*|^=>&", "'/*1.B\x7f"} {
		texts, right := []string{""}, 0
		for range 6 {
			var longer []string
			for _, text := range texts {
				if checkSecond(t, text) {
					right++
				}
				for at := range len(bytes) {
					longer = append(longer, text+bytes[at:at+1])
				}
			}
			texts = longer
		}
		if right < 50 {
			t.Errorf("%q: %d right ones", bytes, right)
		}
	}
}

// someRaw is a token as a source may have it.
func someRaw(r *rand.Rand) string {
	some := func(of string, most int) string {
		s := make([]byte, r.Intn(most+1))
		for at := range s {
			s[at] = of[r.Intn(len(of))]
		}
		return string(s)
	}
	switch r.Intn(7) {
	case 0:
		return "aBz$#@"[r.Intn(6):][:1] + some("abcXYZ019_$#@", 30)
	case 1:
		return []string{"12", "1.5", ".5", "7.", "0", "9" + some("0123456789", 20), "." + some("123", 3) + "1"}[r.Intn(7)] + []string{"", "E5", "e-07", "E+10"}[r.Intn(4)]
	case 2:
		return []string{"1", "1.", "101.01", ".1", some("01", 40) + "0"}[r.Intn(5)] + "bB"[r.Intn(2):][:1]
	case 3:
		return "'" + strings.ReplaceAll(some("aZ' /*;~0", 250), "'", "''") + "'"
	case 4:
		return "'" + some("01", 250) + "'b"
	case 5:
		return "'" + some("0189afAF", 62) + "'B4"
	}
	operators := strings.Fields("** || ^= ^< ^> <= >= -> + - * / = < > & | ^ ( ) , ; : . %")
	return operators[r.Intn(len(operators))]
}

// someBetween is what may stand between tokens.
func someBetween(r *rand.Rand) string {
	return []string{" ", "\t", "\n", "  \n ", "/**/", "/* it's */", "/***/", " /* 1E * / \n\t*/ ", "/*/*/"}[r.Intn(9)]
}

// P9.2: tokens that are joined by any blanks and comments are the tokens, and what Show writes of them is read as them again.
func TestBack(t *testing.T) {
	r := rand.New(rand.NewSource(2))
	for range 4000 {
		text := ""
		var want []api.Token
		for range r.Intn(12) {
			for range 1 + r.Intn(3) {
				text += someBetween(r)
			}
			raw := someRaw(r)
			one, _, e := token.Scan(raw)
			if len(one) != 1 || e != api.OK {
				t.Fatalf("Scan(%q) = %q, %d", raw, brief(one), e)
			}
			one[0].At = len(text)
			want = append(want, one[0])
			text += raw
		}
		l, at, e := token.Scan(text)
		if !slices.Equal(l, want) || at != 0 || e != api.OK {
			t.Fatalf("Scan(%q) = %q, %d, %d; want %q", text, brief(l), at, e, brief(want))
		}
		written, e := token.Show(l)
		again, at, e2 := token.Scan(written)
		if !alike(again, l) || at != 0 || e != api.OK || e2 != api.OK {
			t.Fatalf("Show of %q = %q, %d, which is %q, %d", text, written, e, brief(again), e2)
		}
		if same, _ := token.Show(again); same != written {
			t.Fatalf("Show of %q = %q, then %q", text, written, same)
		}
	}
}

// someSource is tokens and what stands between them, and sometimes what is wrong.
func someSource(r *rand.Rand) string {
	text := ""
	for range r.Intn(8) {
		switch r.Intn(8) {
		case 0, 1:
			text += someBetween(r)
		case 2:
			text += []string{"'", "!", "_", "3E", "\x80", "/*", "*/", "\x00", many("a", 32), "'" + many("b", 251) + "'", "'" + many("8", 63) + "'b4", "12B", "'2'B", "'a\n'", "\r"}[r.Intn(15)]
		default:
			text += someRaw(r)
		}
	}
	return text
}

func TestSourcesBySecondScanner(t *testing.T) {
	r := rand.New(rand.NewSource(3))
	seen := map[bool]int{}
	for range 30000 {
		seen[checkSecond(t, someSource(r))]++
	}
	if seen[true] < 5000 || seen[false] < 5000 {
		t.Errorf("%v", seen)
	}
}

// P9.1: whatever the text, a call ends and does not panic, and what Scan tells is valid.
func TestAnyTexts(t *testing.T) {
	r := rand.New(rand.NewSource(4))
	for range 20000 {
		text := make([]byte, r.Intn(60))
		for at := range text {
			text[at] = byte(r.Intn(256))
			if r.Intn(20) > 0 {
				text[at] = "'/*1.EB4aZ_$ \n\t;=^|>-"[r.Intn(21)]
			}
		}
		checkSecond(t, string(text))
		l, _, _ := token.Scan(string(text))
		for _, x := range l {
			if !token.Valid(x) {
				t.Errorf("Valid(%+v) is false", x)
			}
		}
		for kind := -1; kind < 8; kind++ {
			x := api.Token{Kind: kind, Text: string(text), At: r.Intn(3) - 1}
			of, v, e := token.Constant(x)
			if token.Valid(x) == (e == api.ErrInvalid) || e != api.OK && (of != (api.Type{}) || v != (api.Value{})) {
				t.Errorf("Constant(%+v) = %+v, %+v, %d", x, of, v, e)
			}
			if written, e := token.Show([]api.Token{x}); token.Valid(x) != (e == api.OK) || e != api.OK && written != "" {
				t.Errorf("Show(%+v) = %q, %d", x, written, e)
			}
		}
		if name := token.Valid(api.Token{Kind: api.KName, Text: string(text)}); token.Name(string(text)) != name {
			t.Errorf("Name(%q) is %v", text, !name)
		}
	}
}

// P9.3: tokens ascend, and between two beginnings there is the token, then nothing that means anything.
func TestPlaces(t *testing.T) {
	r := rand.New(rand.NewSource(5))
	for range 10000 {
		text := someSource(r)
		l, _, e := token.Scan(text)
		if e != api.OK {
			continue
		}
		for n, x := range l {
			end := len(text)
			if n+1 < len(l) {
				end = l[n+1].At
			}
			if x.At >= end {
				t.Fatalf("Scan(%q): %v", text, l)
			}
			if one, _, e := token.Scan(text[x.At:end]); !alike(one, l[n:n+1]) || one[0].At != 0 || e != api.OK {
				t.Fatalf("Scan(%q): %q from %d to %d is %q", text, x.Text, x.At, end, brief(one))
			}
		}
		if len(l) > 0 {
			if none, _, e := token.Scan(text[:l[0].At]); len(none) != 0 || e != api.OK {
				t.Fatalf("Scan(%q): %q is ahead", text, brief(none))
			}
		}
	}
}

// turned is a text with great letters as small ones, or small ones as great ones, outside of quotes.
func turned(text string, l []api.Token, turn func(string) string) string {
	made, from := "", 0
	for _, x := range l {
		if x.Kind == api.KChar {
			end := x.At + len(shown(x))
			made += turn(text[from:x.At]) + text[x.At:end]
			from = end
		}
	}
	return made + turn(text[from:])
}

// P9.4: great or small letters outside of quotes make no difference.
func TestLetters(t *testing.T) {
	r := rand.New(rand.NewSource(6))
	for range 10000 {
		text := someSource(r)
		l, at, e := token.Scan(text)
		for _, turn := range []func(string) string{strings.ToLower, strings.ToUpper} {
			if e != api.OK && strings.ContainsAny(text, "'\x80") { // of a wrong text it is not told what is in quotes
				continue
			}
			again := turned(text, l, turn)
			if got, at2, e2 := token.Scan(again); !slices.Equal(got, l) || at2 != at || e2 != e {
				t.Fatalf("Scan(%q) = %q, %d, %d; Scan(%q) = %q, %d, %d", text, brief(l), at, e, again, brief(got), at2, e2)
			}
		}
	}
}

// Arguments stay as they are, and results are new each time.
func TestNewMemory(t *testing.T) {
	const text = "A(1, 'x') = '1'B;"
	l, _, _ := token.Scan(text)
	want := slices.Clone(l)
	room := make([]api.Token, len(l), len(l)+5)
	copy(room, l)
	clear(l)
	if again, _, _ := token.Scan(text); !slices.Equal(again, want) {
		t.Errorf("Scan(%q) = %v behind one that was changed", text, again)
	}
	first, _ := token.Show(room)
	if second, _ := token.Show(room); first != text || second != first {
		t.Errorf("Show = %q, then %q", first, second)
	}
	if spare := room[:cap(room)]; !slices.Equal(room, want) || !slices.Equal(spare[len(room):], make([]api.Token, 5)) {
		t.Errorf("Show made %v of its argument", spare)
	}
}
