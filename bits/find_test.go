package bits_test

import (
	"slices"
	"strings"
	"testing"

	"ironbark/api"
	"ironbark/bits"
)

func TestIndexAndTally(t *testing.T) {
	whole := text(long("a", api.MaxLen))
	for _, x := range []struct {
		s, p         api.Value
		index, tally int
	}{
		{text("banana"), text("an"), 2, 2},
		{text("banana"), text("ana"), 2, 2}, // they overlap
		{text("banana"), text("banana"), 1, 1},
		{text("banana"), text("b"), 1, 1},
		{text("banana"), text("a"), 2, 3},
		{text("banana"), text("na"), 3, 2},
		{text("banana"), text("nan"), 3, 1},
		{text("banana"), text("x"), 0, 0},
		{text("banana"), text("bananas"), 0, 0},
		{text("banana"), text("ab"), 0, 0},
		{text("banana"), text("A"), 0, 0},
		{text("aaaa"), text("aa"), 1, 3},
		{text("a b "), text(" "), 2, 2},
		{text("ab"), text("b "), 0, 0}, // nothing is filled up
		{text("a"), text(""), 0, 0},
		{text(""), text("a"), 0, 0},
		{text(""), text(""), 0, 0},
		{digits("0010"), digits("10"), 3, 1},
		{digits("0000"), digits("00"), 1, 3},
		{digits("1"), digits("10"), 0, 0},
		{digits(""), digits("0"), 0, 0},
		{digits("0"), digits(""), 0, 0},
		{whole, text("a"), 1, 250},
		{whole, text(long("a", 249)), 1, 2},
		{whole, whole, 1, 1},
		{text(long(" ", 249) + "x"), text("x"), 250, 1},
	} {
		checkAnswer(t, x.index)(bits.Index(x.s, x.p))
		checkAnswer(t, x.tally)(bits.Tally(x.s, x.p))
	}
}

func TestVerifyAndSearch(t *testing.T) {
	for _, x := range []struct {
		s, set         api.Value
		verify, search int
	}{
		{text("aab"), text("a"), 3, 1},
		{text("aab"), text("xb"), 1, 3},
		{text("aab"), text("ab"), 0, 1},
		{text("aab"), text("ba"), 0, 1},
		{text("aab"), text("xyz"), 1, 0},
		{text("aab"), text("aa"), 3, 1},
		{text("a b"), text("ab"), 2, 1},
		{text("ab "), text("ab"), 3, 1},
		{text("ab "), text(" "), 1, 3},
		{text("aab"), text(""), 1, 0},
		{text(""), text("a"), 0, 0},
		{text(""), text(""), 0, 0},
		{digits("0010"), digits("0"), 3, 1},
		{digits("0010"), digits("1"), 1, 3},
		{digits("0010"), digits("10"), 0, 1},
		{digits("11"), digits("0"), 1, 0},
		{digits("0"), digits(""), 1, 0},
		{digits(""), digits("01"), 0, 0},
		{text(long("a", 249) + "b"), text("a"), 250, 1},
		{text(long("a", 249) + "b"), text("b"), 1, 250},
		{text("~"), text(long(" ", 249) + "~"), 0, 1},
	} {
		checkAnswer(t, x.verify)(bits.Verify(x.s, x.set))
		checkAnswer(t, x.search)(bits.Search(x.s, x.set))
	}
}

func TestTranslate(t *testing.T) {
	for _, x := range []struct{ s, to, from, want api.Value }{
		{text("cab"), text("XY"), text("abc"), text(" XY")},
		{text("cab"), text("XYZ"), text("abc"), text("ZXY")},
		{text("cabx"), text("XYZ"), text("abc"), text("ZXYx")},
		{text("cab"), text(""), text("abc"), text("   ")},
		{text("cab"), text(""), text("b"), text("ca ")},
		{text("cab"), text("XYZ"), text(""), text("cab")},
		// what is behind from's length in to does not count
		{text("cab"), text("XYZ"), text("a"), text("cXb")},
		// the least place in from
		{text("aba"), text("XYZ"), text("aba"), text("XYX")},
		{text("aba"), text(" Y"), text("aa"), text(" b ")},
		// each item once: what it becomes is not looked for again
		{text("abc"), text("bca"), text("abc"), text("bca")},
		{text(""), text("X"), text("a"), text("")},
		{text("a a"), text("_"), text(" "), text("a_a")},
		{digits("0110"), digits("10"), digits("01"), digits("1001")},
		{digits("0110"), digits("1"), digits("01"), digits("1001")},
		{digits("0110"), digits(""), digits("1"), digits("0000")},
		{digits("0110"), digits("11"), digits("10"), digits("1111")},
		{digits("0110"), digits("1"), digits(""), digits("0110")},
		{digits(""), digits("1"), digits("0"), digits("")},
		{text(long("ab", 250)), text("xy"), text("ab"), text(long("xy", 250))},
		{text("~"), text(long(" ", 249) + "x"), text(long("a", 249) + "~"), text("x")},
		{text("~"), text("x"), text(long("a", 249) + "~"), text(" ")},
	} {
		checkString(t, x.want)(bits.Translate(x.s, x.to, x.from))
	}
}

// begins are the places at which p begins in s, looked at one by one.
func begins(s, p string) []int {
	var l []int
	for from := 0; p != "" && from+len(p) <= len(s); from++ {
		if s[from:from+len(p)] == p {
			l = append(l, from+1)
		}
	}
	return l
}

// first is the first one of the places; 0 if there is none.
func first(places []int) int {
	if len(places) == 0 {
		return 0
	}
	return places[0]
}

// Of short strings all: what is found is what a walk over the places finds.
func TestFoundPlaceByPlace(t *testing.T) {
	for _, all := range [][]api.Value{small(text, " ab", 4), small(digits, "01", 6)} {
		for _, s := range all {
			for _, p := range all {
				places := begins(s.S, p.S)
				checkAnswer(t, first(places))(bits.Index(s, p))
				checkAnswer(t, len(places))(bits.Tally(s, p))
				var in, out []int
				for place, item := range s.S {
					if strings.ContainsRune(p.S, item) {
						in = append(in, place+1)
					} else {
						out = append(out, place+1)
					}
				}
				checkAnswer(t, first(in))(bits.Search(s, p))
				checkAnswer(t, first(out))(bits.Verify(s, p))
			}
		}
	}
}

func TestTranslatedItemByItem(t *testing.T) {
	for _, all := range [][]api.Value{small(text, " ab", 3), small(digits, "01", 4)} {
		for _, s := range all {
			for _, to := range all {
				for _, from := range all {
					want := api.Value{Kind: s.Kind}
					for _, item := range s.S {
						want.S += becomes(string(item), to, from)
					}
					checkString(t, want)(bits.Translate(s, to, from))
				}
			}
		}
	}
}

// becomes goes through from, beginning at its end, so that the least place has the last word.
func becomes(item string, to, from api.Value) string {
	row := strings.Split(to.S, "")
	for len(row) < len(from.S) {
		row = append(row, map[int]string{api.TChar: " ", api.TBit: "0"}[from.Kind])
	}
	now := item
	for at, what := range slices.Backward(strings.Split(from.S, "")) {
		if what == item {
			now = row[at]
		}
	}
	return now
}
