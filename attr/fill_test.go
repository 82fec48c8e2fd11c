package attr_test

import (
	"strings"
	"testing"

	"ironbark/api"
	"ironbark/attr"
)

// ruled is rules for all names that these tests use.
func ruled(l ...api.Set) (rules []api.Default) {
	for _, s := range l {
		rules = append(rules, api.Default{Low: "#", High: "Z", Set: s})
	}
	return rules
}

func TestFillBySystem(t *testing.T) {
	for _, c := range []struct {
		s          api.Set
		name, want string
	}{
		{api.Set{}, "INDEX", "AUTOMATIC BINARY FIXED(15,0)"},
		{api.Set{}, "X", "AUTOMATIC DECIMAL FLOAT(6)"},
		{api.Set{}, "H", "AUTOMATIC DECIMAL FLOAT(6)"},
		{api.Set{}, "I", "AUTOMATIC BINARY FIXED(15,0)"},
		{api.Set{}, "K9", "AUTOMATIC BINARY FIXED(15,0)"},
		{api.Set{}, "N", "AUTOMATIC BINARY FIXED(15,0)"},
		{api.Set{}, "O", "AUTOMATIC DECIMAL FLOAT(6)"},
		{api.Set{}, "$I", "AUTOMATIC DECIMAL FLOAT(6)"},
		{of("", 7), "X", "AUTOMATIC DECIMAL FLOAT(7)"},
		{of("", 7), "I", "AUTOMATIC BINARY FIXED(7,0)"},
		{of("", 0), "I", "AUTOMATIC BINARY FIXED(0,0)"},
		{scaled("", 7, 2), "X", "AUTOMATIC DECIMAL FLOAT(7)"},
		{scaled("", 7, 2), "I", "AUTOMATIC BINARY FIXED(7,2)"},
		{scaled("STATIC", 7, 2), "X", "DECIMAL FLOAT(7) STATIC"},
		{words("FIXED"), "X", "AUTOMATIC DECIMAL FIXED(5,0)"},
		{words("FIXED"), "I", "AUTOMATIC DECIMAL FIXED(5,0)"},
		{words("FLOAT"), "I", "AUTOMATIC DECIMAL FLOAT(6)"},
		{words("BINARY"), "I", "AUTOMATIC BINARY FLOAT(21)"},
		{words("DECIMAL"), "I", "AUTOMATIC DECIMAL FLOAT(6)"},
		{words("BINARY FIXED"), "X", "AUTOMATIC BINARY FIXED(15,0)"},
		{of("BINARY", 9), "X", "AUTOMATIC BINARY FLOAT(9)"},
		{scaled("BINARY", 9, 3), "X", "AUTOMATIC BINARY FIXED(9,3)"},
		{scaled("DECIMAL", 9, 0), "X", "AUTOMATIC DECIMAL FIXED(9,0)"},
		{scaled("FIXED", 9, 3), "X", "AUTOMATIC DECIMAL FIXED(9,3)"},
		{of("FIXED", 9), "X", "AUTOMATIC DECIMAL FIXED(9,0)"},
		{words("CHARACTER"), "I", "AUTOMATIC CHARACTER(1)"},
		{words("BIT VARYING"), "I", "AUTOMATIC BIT(1) VARYING"},
		{long("BIT", 0), "I", "AUTOMATIC BIT(0)"},
		{shown("PICTURE", "9"), "I", "AUTOMATIC PICTURE'9'"},
		{words("POINTER"), "I", "AUTOMATIC POINTER"},
		{words("LABEL"), "I", "AUTOMATIC LABEL"},
		{words("ENTRY"), "I", "ENTRY"},
		{words("FILE"), "I", "FILE"},
		{words("BUILTIN"), "I", "BUILTIN"},
		{words("CONDITION"), "I", "CONDITION"},
		{words("INITIAL"), "I", "AUTOMATIC BINARY FIXED(15,0) INITIAL"},
		{words("BASED"), "X", "BASED DECIMAL FLOAT(6)"},
		{words("CONTROLLED INITIAL"), "X", "CONTROLLED DECIMAL FLOAT(6) INITIAL"},
	} {
		s, e := attr.Fill(c.s, c.name, nil)
		if text, _ := attr.Text(s); text != c.want || e != api.OK {
			t.Errorf("%v, %s: %q, %d", c.s, c.name, text, e)
		}
	}
}

func TestFillByRules(t *testing.T) {
	for _, c := range []struct {
		s     api.Set
		name  string
		rules []api.Default
		want  string
	}{
		{api.Set{}, "X", ruled(long("BIT", 8)), "AUTOMATIC BIT(8)"},
		{api.Set{}, "X", ruled(words("FIXED"), words("BINARY"), scaled("", 7, 1)), "AUTOMATIC BINARY FIXED(7,1)"},
		{api.Set{}, "X", ruled(words("FIXED"), words("BINARY")), "AUTOMATIC BINARY FIXED(15,0)"},
		{words("FLOAT"), "I", ruled(words("BINARY FIXED STATIC")), "BINARY FLOAT(21) STATIC"},
		{words("POINTER"), "I", ruled(words("BINARY FIXED STATIC")), "POINTER STATIC"},
		{words("FIXED"), "X", ruled(words("BIT STATIC VARYING")), "DECIMAL FIXED(5,0) STATIC"},
		{words("FILE"), "X", ruled(words("FIXED INITIAL STATIC")), "FILE"},
		// A word that a rule adds may bar later ones.
		{api.Set{}, "X", ruled(words("STATIC"), words("FILE")), "DECIMAL FLOAT(6) STATIC"},
		{api.Set{}, "X", ruled(words("FILE"), words("STATIC")), "FILE"},
		{api.Set{}, "X", ruled(words("INITIAL"), words("BASED")), "AUTOMATIC DECIMAL FLOAT(6) INITIAL"},
		{api.Set{}, "X", ruled(words("BASED"), words("INITIAL")), "BASED DECIMAL FLOAT(6)"},
		{api.Set{}, "X", ruled(words("FIXED"), words("FLOAT")), "AUTOMATIC DECIMAL FIXED(5,0)"},
		{api.Set{}, "X", ruled(words("AUTOMATIC"), words("STATIC")), "AUTOMATIC DECIMAL FLOAT(6)"},
		// A precision, with its scale, if there is none and it may be there then.
		{words("FIXED"), "X", ruled(scaled("", 7, 2)), "AUTOMATIC DECIMAL FIXED(7,2)"},
		{of("FIXED", 9), "X", ruled(scaled("", 7, 2)), "AUTOMATIC DECIMAL FIXED(9,0)"},
		{words("FLOAT"), "X", ruled(scaled("", 7, 2)), "AUTOMATIC DECIMAL FLOAT(7)"},
		{words("FLOAT"), "X", ruled(scaled("BINARY FIXED", 7, 2)), "AUTOMATIC BINARY FLOAT(7)"},
		{words("BIT"), "X", ruled(scaled("", 7, 2)), "AUTOMATIC BIT(1)"},
		{words("FILE"), "X", ruled(of("", 7)), "FILE"},
		{words("POINTER"), "X", ruled(of("FIXED", 7)), "AUTOMATIC POINTER"},
		{api.Set{}, "X", ruled(scaled("", 7, 2)), "AUTOMATIC DECIMAL FLOAT(7)"},
		{api.Set{}, "I", ruled(scaled("", 7, 2)), "AUTOMATIC BINARY FIXED(7,2)"},
		{words("BINARY"), "X", ruled(scaled("", 7, 2)), "AUTOMATIC BINARY FIXED(7,2)"},
		{api.Set{}, "I", ruled(scaled("DECIMAL", 7, 2)), "AUTOMATIC DECIMAL FIXED(7,2)"},
		{api.Set{}, "X", ruled(of("", 7), of("", 8)), "AUTOMATIC DECIMAL FLOAT(7)"},
		{api.Set{}, "X", ruled(of("", 0), of("", 8)), "AUTOMATIC DECIMAL FLOAT(0)"},
		// What is there bars words, numbers too.
		{of("", 7), "X", ruled(long("BIT", 8)), "AUTOMATIC DECIMAL FLOAT(7)"},
		{of("", 7), "X", ruled(shown("PICTURE", "9")), "AUTOMATIC DECIMAL FLOAT(7)"},
		{scaled("", 7, 2), "I", ruled(words("FLOAT STATIC")), "BINARY FIXED(7,2) STATIC"},
		{api.Set{}, "X", ruled(of("", 7), words("FILE")), "AUTOMATIC DECIMAL FLOAT(7)"},
		{of("", 7), "I", ruled(words("DECIMAL")), "AUTOMATIC DECIMAL FLOAT(7)"},
		// A length, a picture.
		{words("CHARACTER"), "X", ruled(long("BIT VARYING", 8)), "AUTOMATIC CHARACTER(8) VARYING"},
		{long("CHARACTER", 3), "X", ruled(long("CHARACTER", 8)), "AUTOMATIC CHARACTER(3)"},
		{long("CHARACTER", 0), "X", ruled(long("CHARACTER", 8)), "AUTOMATIC CHARACTER(0)"},
		{words("FIXED"), "X", ruled(long("BIT", 8)), "AUTOMATIC DECIMAL FIXED(5,0)"},
		{api.Set{}, "X", ruled(words("BIT"), long("CHARACTER", 8)), "AUTOMATIC BIT(8)"},
		{api.Set{}, "X", ruled(shown("PICTURE", "99"), shown("PICTURE", "X")), "AUTOMATIC PICTURE'99'"},
		{shown("PICTURE", "X"), "X", ruled(shown("PICTURE", "99")), "AUTOMATIC PICTURE'X'"},
		{words("FIXED"), "X", ruled(shown("PICTURE STATIC", "99")), "DECIMAL FIXED(5,0) STATIC"},
	} {
		s, e := attr.Fill(c.s, c.name, c.rules)
		if text, _ := attr.Text(s); text != c.want || e != api.OK {
			t.Errorf("%v, %s, %v: %q, %d", c.s, c.name, c.rules, text, e)
		}
	}
}

// counts reports by the Fill of an empty set whether a rule counts for a name.
func counts(t *testing.T, low, high, name string) bool {
	t.Helper()
	s, e := attr.Fill(api.Set{}, name, []api.Default{{Low: low, High: high, Set: words("FILE")}})
	if e != api.OK {
		t.Errorf("%q to %q, %s: %d", low, high, name, e)
	}
	return len(s.Words) == 1
}

func TestRuleCounts(t *testing.T) {
	for _, c := range []struct {
		low, high, name string
		want            bool
	}{
		{"A", "C", "A", true}, {"A", "C", "CAT", true}, {"A", "C", "DOG", false}, {"B", "C", "AX", false}, {"B", "B", "B", true}, {"B", "B", "BX", true},
		{"AB", "AB", "ABC", true}, {"AB", "AB", "AC", false}, {"AB", "AB", "AA", false}, {"AB", "AB", "A", false}, {"A", "AB", "A", true}, {"A", "AB", "AB9", true},
		{"A", "AB", "AC", false}, {"AB", "C", "A", false}, {"AB", "C", "B", true}, {"AB", "C", "CZZ", true}, {"A", "CA", "C", true}, {"A", "CA", "CB", false},
		{"A", "CA", "CAZ", true}, {"$", "$", "$X", true}, {"#", "Z", "@1", true}, {"a", "z", "A", false}, {"\x00", "\xff", "A", true}, {" ", "~", "X", true},
		{strings.Repeat("A", 31), strings.Repeat("A", 31), strings.Repeat("A", 31), true}, {strings.Repeat("A", 31), strings.Repeat("A", 31), strings.Repeat("A", 30), false},
	} {
		if is := counts(t, c.low, c.high, c.name); is != c.want {
			t.Errorf("%q to %q, %s: %v", c.low, c.high, c.name, is)
		}
	}
}

// short is all texts of one to three of some bytes.
func short(bytes string) (l []string) {
	from := []string{""}
	for range 3 {
		var longer []string
		for _, text := range from {
			for _, c := range bytes {
				longer = append(longer, text+string(c))
			}
		}
		l, from = append(l, longer...), longer
	}
	return l
}

// order is -1, 0 or 1 as a text is below, at or above another one, byte by byte.
func order(a, b string) int {
	for at := 0; at < len(a) && at < len(b); at++ {
		if a[at] != b[at] {
			return map[bool]int{true: -1, false: 1}[a[at] < b[at]]
		}
	}
	return min(1, max(-1, len(a)-len(b)))
}

func TestRuleCountsAll(t *testing.T) {
	texts := short("AB$")
	for _, low := range texts {
		for _, high := range texts {
			if order(low, high) > 0 {
				continue
			}
			for _, name := range texts {
				want := order(low, name[:min(len(low), len(name))]) <= 0 && order(name[:min(len(high), len(name))], high) <= 0
				if is := counts(t, low, high, name); is != want {
					t.Errorf("%q to %q, %s: %v", low, high, name, is)
				}
			}
		}
	}
}

func isNameByte(c byte) bool {
	return strings.IndexByte("ABCDEFGHIJKLMNOPQRSTUVWXYZ0123456789_$#@", c) >= 0
}

func TestNames(t *testing.T) {
	fill := func(name string, want bool) {
		t.Helper()
		s, e := attr.Fill(api.Set{}, name, nil)
		if want != (e == api.OK) || !want && (e != api.ErrName || !isEmpty(s)) {
			t.Errorf("%q: %v, %d", name, s, e)
		}
	}
	for c := range 256 {
		one := string([]byte{byte(c)})
		isFirst := isNameByte(byte(c)) && !strings.Contains("0123456789_", one)
		fill(one, isFirst)
		fill(one+"A", isFirst)
		fill("A"+one, isNameByte(byte(c)))
		fill("A"+one+"A", isNameByte(byte(c)))
	}
	fill("", false)
	fill(strings.Repeat("A", 31), true)
	fill(strings.Repeat("A", 32), false)
	fill(strings.Repeat("A", 100000), false)
}

func TestType(t *testing.T) {
	for _, c := range []struct {
		s    api.Set
		want api.Type
		e    api.Errno
	}{
		{scaled("AUTOMATIC BINARY FIXED", 31, 31), api.Type{Kind: api.TBin, P: 31, Q: 31}, api.OK},
		{scaled("BASED BINARY FIXED", 1, 0), api.Type{Kind: api.TBin, P: 1}, api.OK},
		{scaled("AUTOMATIC DECIMAL FIXED", 15, 31), api.Type{Kind: api.TDec, P: 15, Q: 31}, api.OK},
		{scaled("DECIMAL FIXED INITIAL STATIC", 5, 2), api.Type{Kind: api.TDec, P: 5, Q: 2}, api.OK},
		{of("AUTOMATIC DECIMAL FLOAT", 15), api.Type{Kind: api.TFloat, P: 15}, api.OK},
		{of("AUTOMATIC BINARY FLOAT", 21), api.Type{Kind: api.TFloat, P: 7}, api.OK},
		{of("AUTOMATIC BINARY FLOAT", 1), api.Type{Kind: api.TFloat, P: 1}, api.OK},
		{of("AUTOMATIC BINARY FLOAT", 31), api.Type{Kind: api.TFloat, P: 10}, api.OK},
		{long("AUTOMATIC CHARACTER", 0), api.Type{Kind: api.TChar}, api.OK},
		{long("AUTOMATIC CHARACTER VARYING", 250), api.Type{Kind: api.TChar, N: 250, Vary: true}, api.OK},
		{long("BIT CONTROLLED VARYING", 8), api.Type{Kind: api.TBit, N: 8, Vary: true}, api.OK},
		{shown("PICTURE STATIC", "99V9"), api.Type{Kind: api.TPic, Pic: "99V9"}, api.OK},
		{words("AUTOMATIC POINTER"), api.Type{Kind: api.TPtr}, api.OK},
		{words("AUTOMATIC LABEL"), api.Type{Kind: api.TLabel}, api.OK},
		{words("ENTRY"), api.Type{Kind: api.TEntry}, api.OK},
		// What Fill would change.
		{api.Set{}, api.Type{}, api.ErrInvalid},
		{words("AUTOMATIC"), api.Type{}, api.ErrInvalid},
		{scaled("BINARY FIXED", 5, 0), api.Type{}, api.ErrInvalid},
		{scaled("AUTOMATIC FIXED", 5, 0), api.Type{}, api.ErrInvalid},
		{of("AUTOMATIC BINARY FIXED", 5), api.Type{}, api.ErrInvalid},
		{words("AUTOMATIC BINARY FIXED"), api.Type{}, api.ErrInvalid},
		{words("AUTOMATIC DECIMAL FLOAT"), api.Type{}, api.ErrInvalid},
		{of("AUTOMATIC DECIMAL", 5), api.Type{}, api.ErrInvalid},
		{of("AUTOMATIC", 5), api.Type{}, api.ErrInvalid},
		{words("AUTOMATIC BIT"), api.Type{}, api.ErrInvalid},
		{words("LABEL"), api.Type{}, api.ErrInvalid},
		{words("INITIAL POINTER"), api.Type{}, api.ErrInvalid},
		{shown("PICTURE", "9"), api.Type{}, api.ErrInvalid},
		// No types.
		{words("FILE"), api.Type{}, api.ErrKind},
		{words("BUILTIN"), api.Type{}, api.ErrKind},
		{words("CONDITION"), api.Type{}, api.ErrKind},
		// Numbers that no type has.
		{scaled("AUTOMATIC BINARY FIXED", 0, 0), api.Type{}, api.ErrRange},
		{scaled("AUTOMATIC DECIMAL FIXED", 0, 2), api.Type{}, api.ErrRange},
		{scaled("AUTOMATIC DECIMAL FIXED", 16, 2), api.Type{}, api.ErrRange},
		{of("AUTOMATIC DECIMAL FLOAT", 0), api.Type{}, api.ErrRange},
		{of("AUTOMATIC DECIMAL FLOAT", 16), api.Type{}, api.ErrRange},
		{of("AUTOMATIC BINARY FLOAT", 0), api.Type{}, api.ErrRange},
		{of("DECIMAL FLOAT STATIC", 31), api.Type{}, api.ErrRange},
	} {
		if got, e := attr.Type(c.s); got != c.want || e != c.e {
			t.Errorf("%v: %v, %d", c.s, got, e)
		}
	}
}

// TestTypeOfNumbers reckons the digits of floats from all precisions.
func TestTypeOfNumbers(t *testing.T) {
	for p := range 32 {
		want := 0
		for 10*want <= 3*p+9-10 && want < 15 {
			want++
		}
		got, e := attr.Type(of("AUTOMATIC BINARY FLOAT", p))
		if p == 0 && e != api.ErrRange || p > 0 && (e != api.OK || got != api.Type{Kind: api.TFloat, P: want}) {
			t.Errorf("FLOAT BINARY(%d): %v, %d", p, got, e)
		}
		got, e = attr.Type(of("AUTOMATIC DECIMAL FLOAT", p))
		if isDec := 1 <= p && p <= 15; isDec != (e == api.OK) || isDec && got != (api.Type{Kind: api.TFloat, P: p}) {
			t.Errorf("FLOAT DECIMAL(%d): %v, %d", p, got, e)
		}
		for q := range 32 {
			got, e = attr.Type(scaled("AUTOMATIC BINARY FIXED", p, q))
			if p == 0 && e != api.ErrRange || p > 0 && (e != api.OK || got != api.Type{Kind: api.TBin, P: p, Q: q}) {
				t.Errorf("FIXED BINARY(%d,%d): %v, %d", p, q, got, e)
			}
			got, e = attr.Type(scaled("AUTOMATIC DECIMAL FIXED", p, q))
			if isDec := 1 <= p && p <= 15; isDec != (e == api.OK) || isDec && got != (api.Type{Kind: api.TDec, P: p, Q: q}) {
				t.Errorf("FIXED DECIMAL(%d,%d): %v, %d", p, q, got, e)
			}
		}
	}
}

// TestTypeOfFilledAlone: just what Fill leaves as it is has a type, or is one of the three that have none.
func TestTypeOfFilledAlone(t *testing.T) {
	for _, s := range rightSets(7, 3, 9, "9'9") {
		x, _ := attr.Fill(s, "X", nil)
		i, _ := attr.Fill(s, "I", nil)
		_, e := attr.Type(s)
		if isFilled := same(s, x) && same(s, i); isFilled != (e != api.ErrInvalid) || isFilled && (e == api.ErrKind) != hasAny(s, "FILE", "BUILTIN", "CONDITION") {
			t.Errorf("%v: %d", s, e)
		}
	}
}

func TestOf(t *testing.T) {
	for _, c := range []struct {
		t    api.Type
		want string
		e    api.Errno
	}{
		{api.Type{Kind: api.TBin, P: 15}, "AUTOMATIC BINARY FIXED(15,0)", api.OK},
		{api.Type{Kind: api.TBin, P: 31, Q: 31}, "AUTOMATIC BINARY FIXED(31,31)", api.OK},
		{api.Type{Kind: api.TDec, P: 5, Q: 2}, "AUTOMATIC DECIMAL FIXED(5,2)", api.OK},
		{api.Type{Kind: api.TFloat, P: 7}, "AUTOMATIC DECIMAL FLOAT(7)", api.OK},
		{api.Type{Kind: api.TChar, N: 5, Vary: true}, "AUTOMATIC CHARACTER(5) VARYING", api.OK},
		{api.Type{Kind: api.TChar}, "AUTOMATIC CHARACTER(0)", api.OK},
		{api.Type{Kind: api.TBit, N: 250}, "AUTOMATIC BIT(250)", api.OK},
		{api.Type{Kind: api.TBit, N: 3, Vary: true}, "AUTOMATIC BIT(3) VARYING", api.OK},
		{api.Type{Kind: api.TPic, Pic: "9'9"}, "AUTOMATIC PICTURE'9''9'", api.OK},
		{api.Type{Kind: api.TPtr}, "AUTOMATIC POINTER", api.OK},
		{api.Type{Kind: api.TLabel}, "AUTOMATIC LABEL", api.OK},
		{api.Type{Kind: api.TEntry}, "ENTRY", api.OK},
		{api.Type{}, "", api.ErrKind},
		{api.Type{Kind: 10}, "", api.ErrKind},
		{api.Type{Kind: -1}, "", api.ErrKind},
		{api.Type{Kind: api.TBin}, "", api.ErrKind},
		{api.Type{Kind: api.TBin, P: 32}, "", api.ErrKind},
		{api.Type{Kind: api.TDec, P: 16}, "", api.ErrKind},
		{api.Type{Kind: api.TDec, P: 5, Q: -1}, "", api.ErrKind},
		{api.Type{Kind: api.TFloat, P: 5, Q: 1}, "", api.ErrKind},
		{api.Type{Kind: api.TChar, N: 251}, "", api.ErrKind},
		{api.Type{Kind: api.TBit, N: -1}, "", api.ErrKind},
		{api.Type{Kind: api.TPic}, "", api.ErrKind},
		{api.Type{Kind: api.TPic, Pic: strings.Repeat("9", 81)}, "", api.ErrKind},
		{api.Type{Kind: api.TPtr, P: 1}, "", api.ErrKind},
		{api.Type{Kind: api.TEntry, Vary: true}, "", api.ErrKind},
	} {
		s, e := attr.Of(c.t)
		if text, _ := attr.Text(s); text != c.want || e != c.e || e != api.OK && !isEmpty(s) {
			t.Errorf("%v: %q, %d", c.t, text, e)
		}
	}
}
