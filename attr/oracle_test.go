package attr_test

import (
	"slices"
	"strconv"
	"strings"
	"testing"

	"ironbark/api"
	"ironbark/attr"
)

// A second reckoning: sets are tried whole, by a table of pairs that is written by hand.

const (
	stored = " AUTOMATIC STATIC CONTROLLED BASED INITIAL "
	plain  = " FIXED FLOAT BINARY DECIMAL CHARACTER BIT VARYING PICTURE POINTER LABEL INITIAL "
)

// partners is the words that go together with a word.
var partners = map[string]string{
	"FIXED":      " BINARY DECIMAL" + stored,
	"FLOAT":      " BINARY DECIMAL" + stored,
	"BINARY":     " FIXED FLOAT" + stored,
	"DECIMAL":    " FIXED FLOAT" + stored,
	"CHARACTER":  " VARYING" + stored,
	"BIT":        " VARYING" + stored,
	"VARYING":    " CHARACTER BIT" + stored,
	"PICTURE":    stored,
	"POINTER":    stored,
	"LABEL":      stored,
	"ENTRY":      "",
	"FILE":       "",
	"BUILTIN":    "",
	"CONDITION":  "",
	"AUTOMATIC":  plain,
	"STATIC":     plain,
	"CONTROLLED": plain,
	"BASED":      strings.Replace(plain, " INITIAL", "", 1),
	"INITIAL":    " FIXED FLOAT BINARY DECIMAL CHARACTER BIT VARYING PICTURE POINTER LABEL AUTOMATIC STATIC CONTROLLED ",
}

// shorter is what may be written for words.
var shorter = map[string]string{
	"BIN": "BINARY", "DEC": "DECIMAL", "CHAR": "CHARACTER", "VAR": "VARYING", "PIC": "PICTURE", "PTR": "POINTER",
	"AUTO": "AUTOMATIC", "CTL": "CONTROLLED", "INIT": "INITIAL", "COND": "CONDITION",
}

// allWords is the words in order.
func allWords() (l []string) {
	for word := range partners {
		l = append(l, word)
	}
	slices.Sort(l)
	return l
}

func isPair(a, b string) bool { return strings.Contains(partners[a], " "+b+" ") }

// hasAny reports whether a set has one of some words.
func hasAny(s api.Set, some ...string) bool {
	return slices.ContainsFunc(some, func(word string) bool { return slices.Contains(s.Words, word) })
}

func isNumeric(s api.Set) bool { return hasAny(s, "FIXED", "FLOAT", "BINARY", "DECIMAL") }

func isString(s api.Set) bool { return hasAny(s, "CHARACTER", "BIT") }

func hasData(s api.Set) bool {
	return isNumeric(s) || isString(s) || hasAny(s, "VARYING", "PICTURE", "POINTER", "LABEL", "ENTRY", "FILE", "BUILTIN", "CONDITION")
}

// secondRight reports whether a set is right.
func secondRight(s api.Set) bool {
	for at, word := range s.Words {
		if _, is := partners[word]; !is || at > 0 && s.Words[at-1] >= word {
			return false
		}
		for _, other := range s.Words[:at] {
			if !isPair(word, other) {
				return false
			}
		}
	}
	switch {
	case s.P < 0 || s.P > 31 || s.Q < 0 || s.Q > 31 || s.N < 0 || s.N > 250:
		return false
	case !s.HasP && s.P != 0 || !s.HasQ && s.Q != 0 || !s.HasN && s.N != 0:
		return false
	case s.HasP && hasData(s) && !isNumeric(s), s.HasQ && !s.HasP, s.HasQ && hasAny(s, "FLOAT"):
		return false
	case s.HasN && !isString(s), hasAny(s, "VARYING") && !isString(s):
		return false
	}
	return hasAny(s, "PICTURE") && 1 <= len(s.Pic) && len(s.Pic) <= 80 || !hasAny(s, "PICTURE") && s.Pic == ""
}

// with is a set with another word, in its place.
func with(s api.Set, word string) api.Set {
	s.Words = append(slices.Clone(s.Words), word)
	slices.Sort(s.Words)
	return s
}

// secondAdd is a set with another word, or why there is none.
func secondAdd(s api.Set, word string) (api.Set, api.Errno) {
	if hasAny(s, word) {
		return api.Set{}, api.ErrDuplicate
	}
	if s = with(s, word); !secondRight(s) {
		return api.Set{}, api.ErrKind
	}
	return s, api.OK
}

// pictured is a set with a word, and with a picture if that is PICTURE.
func pictured(s api.Set, word, pic string) api.Set {
	if word == "PICTURE" {
		s.Pic = pic
	}
	return with(s, word)
}

// secondMerge is two sets as one, or why there is none.
func secondMerge(a, b api.Set) (api.Set, api.Errno) {
	for _, word := range b.Words {
		if hasAny(a, word) {
			return api.Set{}, api.ErrDuplicate
		}
		if a = pictured(a, word, b.Pic); !secondRight(a) {
			return api.Set{}, api.ErrKind
		}
	}
	if b.HasP && a.HasP {
		return api.Set{}, api.ErrDuplicate
	}
	if b.HasP {
		a.HasP, a.P, a.HasQ, a.Q = true, b.P, b.HasQ, b.Q
	}
	if b.HasN {
		a.HasN, a.N = true, b.N
	}
	if !secondRight(a) {
		return api.Set{}, api.ErrKind
	}
	return a, api.OK
}

// secondTake is a set with what a rule gives it.
func secondTake(s, rule api.Set) api.Set {
	try := func(t api.Set) {
		if secondRight(t) {
			s = t
		}
	}
	for _, word := range rule.Words {
		if !hasAny(s, word) {
			try(pictured(s, word, rule.Pic))
		}
	}
	if rule.HasP && !s.HasP {
		t := s
		t.HasP, t.P = true, rule.P
		try(t)
		t.HasQ, t.Q = rule.HasQ, rule.Q
		try(t)
	}
	if rule.HasN && !s.HasN {
		t := s
		t.HasN, t.N = true, rule.N
		try(t)
	}
	return s
}

// secondFill is a set with what is there by the name.
func secondFill(s api.Set, name string) api.Set {
	switch {
	case !hasData(s) && strings.Contains("IJKLMN", name[:1]):
		s = with(with(s, "FIXED"), "BINARY")
	case !hasData(s):
		s.HasQ, s.Q = false, 0
		s = with(with(s, "FLOAT"), "DECIMAL")
	}
	if isNumeric(s) {
		if !hasAny(s, "BINARY", "DECIMAL") {
			s = with(s, "DECIMAL")
		}
		if !hasAny(s, "FIXED", "FLOAT") && s.HasQ {
			s = with(s, "FIXED")
		} else if !hasAny(s, "FIXED", "FLOAT") {
			s = with(s, "FLOAT")
		}
		if !s.HasP {
			s.HasP, s.P = true, map[string]int{"BINARY FIXED": 15, "DECIMAL FIXED": 5, "DECIMAL FLOAT": 6, "BINARY FLOAT": 21}[numericWords(s)]
		}
		s.HasQ = hasAny(s, "FIXED")
	}
	if isString(s) && !s.HasN {
		s.HasN, s.N = true, 1
	}
	if !hasAny(s, "AUTOMATIC", "STATIC", "CONTROLLED", "BASED", "FILE", "ENTRY", "BUILTIN", "CONDITION") {
		s = with(s, "AUTOMATIC")
	}
	return s
}

func numericWords(s api.Set) string {
	var l []string
	for _, word := range s.Words {
		if strings.Contains(" BINARY DECIMAL FIXED FLOAT ", " "+word+" ") {
			l = append(l, word)
		}
	}
	return strings.Join(l, " ")
}

// secondText is the text of a right set.
func secondText(s api.Set) string {
	p := ""
	switch {
	case s.HasQ:
		p = "(" + strconv.Itoa(s.P) + "," + strconv.Itoa(s.Q) + ")"
	case s.HasP:
		p = "(" + strconv.Itoa(s.P) + ")"
	}
	text := " " + strings.Join(s.Words, " ") + " "
	if l := strings.Fields(numericWords(s)); len(l) > 0 {
		last := " " + l[len(l)-1]
		text = strings.Replace(text, last, last+p, 1)
	} else if p != "" {
		text = " " + p + text
	}
	if s.HasN {
		n := "(" + strconv.Itoa(s.N) + ") "
		text = strings.Replace(strings.Replace(text, " BIT ", " BIT"+n, 1), " CHARACTER ", " CHARACTER"+n, 1)
	}
	return strings.Replace(strings.Trim(text, " "), "PICTURE", "PICTURE'"+strings.ReplaceAll(s.Pic, "'", "''")+"'", min(1, len(s.Pic)))
}

// same reports whether two sets are the same.
func same(a, b api.Set) bool {
	return slices.Equal(a.Words, b.Words) && a.HasP == b.HasP && a.P == b.P && a.HasQ == b.HasQ && a.Q == b.Q && a.HasN == b.HasN && a.N == b.N && a.Pic == b.Pic
}

// isEmpty reports whether a set has nothing.
func isEmpty(s api.Set) bool { return same(s, api.Set{}) }

// rows calls a function for all ascending rows of up to some words.
func rows(most int, visit func(words []string)) {
	words := allWords()
	var row []string
	var from func(at int)
	from = func(at int) {
		visit(row)
		if len(row) == most {
			return
		}
		for ; at < len(words); at++ {
			row = append(row, words[at])
			from(at + 1)
			row = row[:len(row)-1]
		}
	}
	from(0)
}

// numbered calls a function for sets of these words with all choices of a precision, a scale, a length and a picture.
func numbered(words []string, p, q, n int, pic string, visit func(s api.Set)) {
	for bits := range 16 {
		s := api.Set{Words: words}
		if bits&1 != 0 {
			s.HasP, s.P = true, p
		}
		if bits&2 != 0 {
			s.HasQ, s.Q = true, q
		}
		if bits&4 != 0 {
			s.HasN, s.N = true, n
		}
		if bits&8 != 0 {
			s.Pic = pic
		}
		visit(s)
	}
}

// rightSets is all right sets of some numbers.
func rightSets(p, q, n int, pic string) (l []api.Set) {
	rows(5, func(words []string) {
		numbered(slices.Clone(words), p, q, n, pic, func(s api.Set) {
			if secondRight(s) {
				l = append(l, s)
			}
		})
	})
	return l
}

func TestPairsAreOfBoth(t *testing.T) {
	for a := range partners {
		for b := range partners {
			if isPair(a, b) != isPair(b, a) {
				t.Errorf("%s, %s", a, b)
			}
		}
	}
}

func TestTogetherAll(t *testing.T) {
	forms := map[string]string{}
	for _, word := range allWords() {
		forms[word] = word
	}
	for short, word := range shorter {
		forms[short] = word
	}
	for a, one := range forms {
		for b, other := range forms {
			if is, e := attr.Together(a, b); is != isPair(one, other) || e != api.OK {
				t.Errorf("%s, %s: %v, %d", a, b, is, e)
			}
		}
	}
}

func TestRightAll(t *testing.T) {
	right := 0
	rows(5, func(words []string) {
		numbered(words, 7, 3, 9, "9'9", func(s api.Set) {
			is := attr.Right(s)
			if is {
				right++
			}
			if is != secondRight(s) {
				t.Errorf("%v: %v", s, is)
			}
		})
	})
	if right < 300 {
		t.Errorf("%d", right)
	}
}

func TestAddAll(t *testing.T) {
	for _, s := range rightSets(7, 3, 9, "9'9") {
		for _, word := range allWords() {
			got, e := attr.Add(s, word)
			if want, wrong := secondAdd(s, word); !same(got, want) || e != wrong {
				t.Errorf("%v, %s: %v, %d; not %v, %d", s, word, got, e, want, wrong)
			}
		}
		for short, word := range shorter {
			got, e := attr.Add(s, short)
			if want, wrong := secondAdd(s, word); !same(got, want) || e != wrong {
				t.Errorf("%v, %s: %v, %d; not %v, %d", s, short, got, e, want, wrong)
			}
		}
	}
}

func TestMergeAll(t *testing.T) {
	others := rightSets(8, 4, 10, "XX")
	for _, a := range rightSets(7, 3, 9, "9'9") {
		for _, b := range others {
			got, e := attr.Merge([]api.Set{a, b})
			if want, wrong := secondMerge(a, b); !same(got, want) || e != wrong {
				t.Fatalf("%v, %v: %v, %d; not %v, %d", a, b, got, e, want, wrong)
			}
			back, f := attr.Merge([]api.Set{b, a})
			if (e == api.OK) != (f == api.OK) || e == api.OK && !same(got, back) {
				t.Fatalf("%v, %v turned: %v, %d", a, b, back, f)
			}
		}
	}
}

func TestFillAll(t *testing.T) {
	rules := rightSets(8, 4, 10, "XX")
	for at, s := range rightSets(7, 3, 9, "9'9") {
		for by, rule := range rules {
			name := []string{"I", "N", "H", "O", "Z"}[(at+by)%5]
			l := []api.Default{{Low: "A", High: "Z", Set: rule}}
			got, e := attr.Fill(s, name, l)
			if want := secondFill(secondTake(s, rule), name); !same(got, want) || e != api.OK || !attr.Right(got) {
				t.Fatalf("%v, %s, %v: %v, %d; not %v", s, name, rule, got, e, want)
			}
			if again, e := attr.Fill(got, name, l); !same(again, got) || e != api.OK {
				t.Fatalf("%v, %s: again %v, %d", got, name, again, e)
			}
		}
	}
}

func TestFillByManyRules(t *testing.T) {
	all := rightSets(8, 4, 10, "XX")
	names := []string{"I", "J1", "H", "O", "$N", "MAX_"}
	for at := range 20000 {
		name, want := names[at%len(names)], api.Set{}
		var rules []api.Default
		for by := range at % 5 {
			rule := all[(at*31+by*97+at/7)%len(all)]
			rule.P, rule.N = min(rule.P, rule.P+by), min(rule.N, rule.N+by)
			rules = append(rules, api.Default{Low: "$", High: "Z", Set: rule})
			want = secondTake(want, rule)
		}
		want = secondFill(want, name)
		got, e := attr.Fill(api.Set{}, name, rules)
		if !same(got, want) || e != api.OK {
			t.Fatalf("%s, %v: %v, %d; not %v", name, rules, got, e, want)
		}
		if again, e := attr.Fill(got, name, rules); !same(again, got) || e != api.OK {
			t.Fatalf("%v, %s, %v: again %v, %d", got, name, rules, again, e)
		}
	}
}

func TestTextAll(t *testing.T) {
	for _, s := range append(rightSets(7, 3, 9, "9'9"), rightSets(0, 0, 0, "' ''(1)PICTURE")...) {
		text, e := attr.Text(s)
		if text != secondText(s) || e != api.OK {
			t.Errorf("%v: %q, %d; not %q", s, text, e, secondText(s))
		}
		if back, e := attr.Read(text); !same(back, s) || e != api.OK {
			t.Errorf("%q: %v, %d", text, back, e)
		}
	}
}

// TestReadNothingElse changes texts by a byte: what is read is what Text writes for it.
func TestReadNothingElse(t *testing.T) {
	for _, s := range rightSets(10, 3, 19, "X'") {
		text, _ := attr.Text(s)
		for at := range len(text) + 1 {
			for _, c := range []string{"", " ", "'", "(", ")", ",", "0", "1", "+", "-", "X", "S", "\n"} {
				readOnlyWritten(t, text[:at]+c+text[at:])
				if at < len(text) {
					readOnlyWritten(t, text[:at]+c+text[at+1:])
				}
			}
		}
	}
}

func readOnlyWritten(t *testing.T, text string) {
	s, e := attr.Read(text)
	if e == api.OK {
		if back, e := attr.Text(s); back != text || e != api.OK || !secondRight(s) {
			t.Fatalf("%q: %v, written %q, %d", text, s, back, e)
		}
	} else if e != api.ErrSyntax || !isEmpty(s) {
		t.Fatalf("%q: %v, %d", text, s, e)
	}
}
