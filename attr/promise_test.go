package attr_test

import (
	"slices"
	"strings"
	"testing"

	"ironbark/api"
	"ironbark/attr"
)

// TestWrongSets hands sets that are not right to each function.
func TestWrongSets(t *testing.T) {
	for _, s := range wrongSets {
		added, a := attr.Add(s, "STATIC")
		merged, m := attr.Merge([]api.Set{{}, s})
		filled, f := attr.Fill(s, "X", nil)
		ruled, r := attr.Fill(api.Set{}, "X", []api.Default{{Low: "Y", High: "Z", Set: s}})
		of, o := attr.Type(s)
		storage, g := attr.Storage(s)
		text, w := attr.Text(s)
		for _, e := range []api.Errno{a, m, f, r, o, g, w} {
			if e != api.ErrInvalid {
				t.Errorf("%v: %d", s, e)
			}
		}
		if !isEmpty(added) || !isEmpty(merged) || !isEmpty(filled) || !isEmpty(ruled) || of != (api.Type{}) || storage != "" || text != "" {
			t.Errorf("%v: %v, %v, %v, %v, %v, %q, %q", s, added, merged, filled, ruled, of, storage, text)
		}
	}
}

func TestWrongRules(t *testing.T) {
	long := strings.Repeat("A", 32)
	for _, d := range []api.Default{
		{Low: "", High: "Z"}, {Low: "A", High: ""}, {}, {Low: "B", High: "A"}, {Low: "AB", High: "A"}, {Low: "a", High: "A"}, {Low: long, High: "Z"}, {Low: "A", High: long}, {Low: "Z\x00", High: "Z"},
	} {
		for _, rules := range [][]api.Default{{d}, {{Low: "A", High: "Z"}, d}, append(slices.Repeat([]api.Default{{Low: "A", High: "Z"}}, 100), d)} {
			if s, e := attr.Fill(api.Set{}, "X", rules); !isEmpty(s) || e != api.ErrInvalid {
				t.Errorf("%v: %v, %d", d, s, e)
			}
		}
	}
	if _, e := attr.Fill(api.Set{}, "X", []api.Default{{Low: strings.Repeat("A", 31), High: strings.Repeat("A", 31)}}); e != api.OK {
		t.Errorf("%d", e)
	}
}

func TestOrderOfErrors(t *testing.T) {
	wrong, rule := words("FOO"), api.Default{Low: "A", High: "Z"}
	if _, e := attr.Add(wrong, "FOO"); e != api.ErrName {
		t.Errorf("Add, name: %d", e)
	}
	if _, e := attr.Add(of("BIT FIXED", 40), "FIXED"); e != api.ErrInvalid {
		t.Errorf("Add, invalid: %d", e)
	}
	if _, e := attr.Add(shown("PICTURE", "9"), "PICTURE"); e != api.ErrDuplicate {
		t.Errorf("Add, duplicate: %d", e)
	}
	if _, e := attr.Merge([]api.Set{words("FIXED"), words("FIXED"), wrong}); e != api.ErrInvalid {
		t.Errorf("Merge, invalid: %d", e)
	}
	if _, e := attr.Merge(append(make([]api.Set, 100), wrong)); e != api.ErrInvalid {
		t.Errorf("Merge, invalid and many: %d", e)
	}
	if _, e := attr.Merge(append(make([]api.Set, 100), words("FIXED"), words("FIXED"))); e != api.ErrDuplicate {
		t.Errorf("Merge, duplicate and many: %d", e)
	}
	if _, e := attr.Merge(append(make([]api.Set, 100), words("FIXED"), words("BIT"))); e != api.ErrKind {
		t.Errorf("Merge, kind and many: %d", e)
	}
	if s, e := attr.Merge(append(make([]api.Set, 100), words("FIXED"))); e != api.ErrLimit || !isEmpty(s) {
		t.Errorf("Merge, many: %v, %d", s, e)
	}
	if s, e := attr.Merge(append(make([]api.Set, 99), words("FIXED"))); e != api.OK || len(s.Words) != 1 {
		t.Errorf("Merge, just so many: %v, %d", s, e)
	}
	if _, e := attr.Fill(wrong, "x", []api.Default{{}}); e != api.ErrName {
		t.Errorf("Fill, name: %d", e)
	}
	if _, e := attr.Fill(wrong, "X", slices.Repeat([]api.Default{rule}, 101)); e != api.ErrInvalid {
		t.Errorf("Fill, invalid and many: %d", e)
	}
	if s, e := attr.Fill(api.Set{}, "X", slices.Repeat([]api.Default{rule}, 101)); e != api.ErrLimit || !isEmpty(s) {
		t.Errorf("Fill, many: %v, %d", s, e)
	}
	last := append(slices.Repeat([]api.Default{rule}, 99), api.Default{Low: "A", High: "Z", Set: words("STATIC")})
	if s, e := attr.Fill(api.Set{}, "X", last); e != api.OK || !hasAny(s, "STATIC") {
		t.Errorf("Fill, just so many: %v, %d", s, e)
	}
}

// types is types of all kinds.
func types() (l []api.Type) {
	for p := range 33 {
		for _, q := range []int{0, 1, 5, 31, 32} {
			l = append(l, api.Type{Kind: api.TBin, P: p, Q: q}, api.Type{Kind: api.TDec, P: p, Q: q}, api.Type{Kind: api.TFloat, P: p, Q: q})
		}
	}
	for n := range 252 {
		for _, vary := range []bool{false, true} {
			l = append(l, api.Type{Kind: api.TChar, N: n, Vary: vary}, api.Type{Kind: api.TBit, N: n, Vary: vary})
		}
	}
	for n := range 82 {
		l = append(l, api.Type{Kind: api.TPic, Pic: strings.Repeat("'", n)})
	}
	for kind := range 12 {
		l = append(l, api.Type{Kind: kind}, api.Type{Kind: kind, Vary: true}, api.Type{Kind: kind, Q: 1}, api.Type{Kind: kind, Pic: "9"})
	}
	return l
}

// isType reports whether a type is valid.
func isType(t api.Type) bool {
	switch t.Kind {
	case api.TBin, api.TDec:
		return t == api.Type{Kind: t.Kind, P: t.P, Q: t.Q} && 1 <= t.P && t.P <= map[int]int{api.TBin: 31, api.TDec: 15}[t.Kind] && 0 <= t.Q && t.Q <= 31
	case api.TFloat:
		return t == api.Type{Kind: t.Kind, P: t.P} && 1 <= t.P && t.P <= 15
	case api.TChar, api.TBit:
		return t == api.Type{Kind: t.Kind, N: t.N, Vary: t.Vary} && 0 <= t.N && t.N <= 250
	case api.TPic:
		return t == api.Type{Kind: t.Kind, Pic: t.Pic} && 1 <= len(t.Pic) && len(t.Pic) <= 80
	}
	return api.TPtr <= t.Kind && t.Kind <= api.TEntry && t == api.Type{Kind: t.Kind}
}

// TestTypeOfOf holds P10.3, and that Of tells filled sets.
func TestTypeOfOf(t *testing.T) {
	for _, ty := range types() {
		s, e := attr.Of(ty)
		if !isType(ty) {
			if e != api.ErrKind || !isEmpty(s) {
				t.Errorf("%v: %v, %d", ty, s, e)
			}
			continue
		}
		if back, f := attr.Type(s); back != ty || e != api.OK || f != api.OK {
			t.Errorf("%v: %v, %d, %v, %d", ty, s, e, back, f)
		}
		if again, e := attr.Fill(s, "I", nil); !same(again, s) || e != api.OK {
			t.Errorf("%v: %v filled %v, %d", ty, s, again, e)
		}
		storage, _ := attr.Storage(s)
		if want := map[bool]string{true: "", false: "AUTOMATIC"}[ty.Kind == api.TEntry]; storage != want || !attr.Right(s) {
			t.Errorf("%v: %v, %q", ty, s, storage)
		}
	}
}

// spare is a set's words in a slice with room behind them that holds something.
func spare(s api.Set) api.Set {
	room := append(slices.Clone(s.Words), "LAST", "LAST")
	s.Words = room[:len(s.Words)]
	return s
}

// isSpared reports whether a set is as it was, also behind its words.
func isSpared(s, before api.Set) bool {
	return same(s, before) && slices.Equal(s.Words[len(s.Words):len(s.Words)+2], []string{"LAST", "LAST"})
}

// spoil changes a set's words, and the room behind them.
func spoil(s api.Set) {
	for at := range s.Words[:cap(s.Words)] {
		s.Words[:cap(s.Words)][at] = "SPOILED"
	}
}

func TestArgumentsStay(t *testing.T) {
	for _, s := range rightSets(7, 3, 9, "9'9") {
		given, rule := spare(s), spare(of("BINARY FIXED INITIAL", 9))
		rules := []api.Default{{Low: "A", High: "Z", Set: rule}}
		added, _ := attr.Add(given, "INITIAL")
		merged, _ := attr.Merge([]api.Set{given})
		joined, _ := attr.Merge([]api.Set{given, rule})
		filled, _ := attr.Fill(given, "X", rules)
		again, _ := attr.Fill(filled, "X", rules)
		for _, result := range []api.Set{added, merged, joined, filled, again} {
			spoil(result)
			if !isSpared(given, s) || !isSpared(rule, of("BINARY FIXED INITIAL", 9)) {
				t.Fatalf("%v: %v, %v", s, given, rule)
			}
		}
	}
}

// TestFilledIsNew asks for a set that nothing need be added to.
func TestFilledIsNew(t *testing.T) {
	s, _ := attr.Of(api.Type{Kind: api.TBin, P: 15})
	other, _ := attr.Of(api.Type{Kind: api.TBin, P: 15})
	filled, _ := attr.Fill(s, "X", nil)
	merged, _ := attr.Merge([]api.Set{s})
	read, _ := attr.Read("AUTOMATIC BINARY FIXED(15,0)")
	for _, result := range []api.Set{other, filled, merged, read} {
		if !same(result, s) {
			t.Errorf("%v", result)
		}
		spoil(result)
	}
	if !same(s, scaled("AUTOMATIC BINARY FIXED", 15, 0)) {
		t.Errorf("%v", s)
	}
}

func TestNilIsEmpty(t *testing.T) {
	a, e := attr.Fill(api.Set{}, "X", nil)
	b, f := attr.Fill(api.Set{Words: []string{}}, "X", []api.Default{})
	if !same(a, b) || e != api.OK || f != api.OK {
		t.Errorf("%v, %d, %v, %d", a, e, b, f)
	}
	if s, e := attr.Merge([]api.Set{}); !isEmpty(s) || e != api.OK {
		t.Errorf("%v, %d", s, e)
	}
}

func TestSameAgain(t *testing.T) {
	rules := ruled(words("STATIC"), scaled("DECIMAL", 7, 2))
	first, _ := attr.Fill(words("INITIAL"), "X", rules)
	for range 50 {
		if again, _ := attr.Fill(words("INITIAL"), "X", rules); !same(first, again) {
			t.Fatalf("%v, %v", first, again)
		}
	}
}
