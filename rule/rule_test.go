package rule_test

import (
	"math"
	"strings"
	"testing"

	"ironbark/api"
	"ironbark/rule"
)

func bin(p, q int) api.Type { return api.Type{Kind: api.TBin, P: p, Q: q} }

func dec(p, q int) api.Type { return api.Type{Kind: api.TDec, P: p, Q: q} }

func float(p int) api.Type { return api.Type{Kind: api.TFloat, P: p} }

func char(n int, vary bool) api.Type { return api.Type{Kind: api.TChar, N: n, Vary: vary} }

func bit(n int, vary bool) api.Type { return api.Type{Kind: api.TBit, N: n, Vary: vary} }

func pic(s string) api.Type { return api.Type{Kind: api.TPic, Pic: s} }

func plain(kind int) api.Type { return api.Type{Kind: kind} }

func fixedTypes() []api.Type {
	var l []api.Type
	for q := 0; q <= api.MaxScale; q++ {
		for p := 1; p <= api.MaxBin; p++ {
			l = append(l, bin(p, q))
		}
		for p := 1; p <= api.MaxDec; p++ {
			l = append(l, dec(p, q))
		}
	}
	return l
}

func numberTypes() []api.Type {
	l := fixedTypes()
	for p := 1; p <= api.MaxDec; p++ {
		l = append(l, float(p))
	}
	return l
}

func stringTypes() []api.Type {
	var l []api.Type
	for n := 0; n <= api.MaxLen; n++ {
		l = append(l, char(n, false), char(n, true), bit(n, false), bit(n, true))
	}
	return l
}

func pictureTypes() []api.Type {
	return []api.Type{pic("9"), pic("'"), pic("''"), pic("9'9"), pic("'9'"), pic(strings.Repeat("'", 80)), pic("\x00\xff\n) VAR"), pic("(3)9V.99")}
}

func plainTypes() []api.Type {
	return []api.Type{plain(api.TPtr), plain(api.TLabel), plain(api.TEntry)}
}

func wrongTypes() []api.Type {
	return []api.Type{
		{}, plain(-1), plain(10), plain(math.MaxInt), plain(math.MinInt),
		bin(0, 0), bin(32, 0), bin(31, 32), bin(31, -1), bin(math.MaxInt, math.MaxInt), dec(0, 0), dec(16, 0), dec(15, 32), dec(15, -1), dec(math.MinInt, math.MinInt),
		float(0), float(16), {Kind: api.TFloat, P: 3, Q: 1}, {Kind: api.TDec, P: 3, N: 1}, {Kind: api.TBin, P: 3, Vary: true}, {Kind: api.TFloat, P: 3, Pic: "9"},
		char(-1, false), char(251, true), bit(251, false), {Kind: api.TBit, P: 1, N: 1},
		pic(""), pic(strings.Repeat("9", 81)), {Kind: api.TPtr, N: 1}, {Kind: api.TLabel, P: 1}, {Kind: api.TEntry, Pic: "9"},
	}
}

type turned struct{ from, to api.Type }

func checkTurns(t *testing.T, name string, f func(api.Type) (api.Type, api.Errno), l []turned) {
	t.Helper()
	for _, x := range l {
		if to, e := f(x.from); to != x.to || e != api.OK {
			t.Errorf("%s(%+v) = %+v, %d; want %+v", name, x.from, to, e, x.to)
		}
	}
}

// checkRefuses checks that types are refused with an error, and nothing beside it.
func checkRefuses(t *testing.T, name string, f func(api.Type) (api.Type, api.Errno), want api.Errno, lists ...[]api.Type) {
	t.Helper()
	for _, l := range lists {
		for _, x := range l {
			if to, e := f(x); to != (api.Type{}) || e != want {
				t.Errorf("%s(%+v) = %+v, %d; want %d", name, x, to, e, want)
			}
		}
	}
}

func TestBinary(t *testing.T) {
	checkTurns(t, "Binary", rule.Binary, []turned{
		{dec(5, 0), bin(18, 0)}, // the chapter's example
		{dec(1, 0), bin(5, 0)}, {dec(2, 0), bin(8, 0)}, {dec(3, 0), bin(11, 0)}, {dec(8, 0), bin(28, 0)},
		{dec(9, 0), bin(31, 0)}, {dec(10, 0), bin(31, 0)}, {dec(15, 0), bin(31, 0)},
		{dec(5, 1), bin(18, 4)}, {dec(5, 2), bin(18, 7)}, {dec(5, 3), bin(18, 10)}, {dec(5, 9), bin(18, 30)}, {dec(5, 10), bin(18, 31)}, {dec(5, 31), bin(18, 31)},
		{bin(1, 0), bin(1, 0)}, {bin(7, 3), bin(7, 3)}, {bin(31, 31), bin(31, 31)},
	})
	checkRefuses(t, "Binary", rule.Binary, api.ErrType, wrongTypes())
	checkRefuses(t, "Binary", rule.Binary, api.ErrKind, []api.Type{float(1), float(15)}, stringTypes(), pictureTypes(), plainTypes())
}

func TestDecimal(t *testing.T) {
	checkTurns(t, "Decimal", rule.Decimal, []turned{
		{bin(1, 0), dec(2, 0)}, {bin(3, 0), dec(2, 0)}, {bin(4, 0), dec(3, 0)}, {bin(6, 0), dec(3, 0)}, {bin(7, 0), dec(4, 0)}, {bin(8, 0), dec(4, 0)}, {bin(10, 0), dec(4, 0)}, {bin(15, 0), dec(6, 0)}, {bin(31, 0), dec(11, 0)},
		{bin(10, 1), dec(4, 1)}, {bin(10, 3), dec(4, 1)}, {bin(10, 4), dec(4, 2)}, {bin(10, 7), dec(4, 3)}, {bin(17, 17), dec(7, 6)}, {bin(10, 30), dec(4, 9)}, {bin(31, 31), dec(11, 10)},
		{dec(1, 0), dec(1, 0)}, {dec(5, 2), dec(5, 2)}, {dec(15, 31), dec(15, 31)},
	})
	checkRefuses(t, "Decimal", rule.Decimal, api.ErrType, wrongTypes())
	checkRefuses(t, "Decimal", rule.Decimal, api.ErrKind, []api.Type{float(1), float(15)}, stringTypes(), pictureTypes(), plainTypes())
}

func TestFloat(t *testing.T) {
	checkTurns(t, "Float", rule.Float, []turned{
		{dec(1, 0), float(1)}, {dec(5, 2), float(5)}, {dec(15, 31), float(15)},
		{bin(1, 0), float(1)}, {bin(3, 0), float(1)}, {bin(4, 2), float(2)}, {bin(7, 31), float(3)}, {bin(10, 0), float(3)}, {bin(11, 0), float(4)}, {bin(31, 31), float(10)},
		{float(1), float(1)}, {float(7), float(7)}, {float(15), float(15)},
	})
	checkRefuses(t, "Float", rule.Float, api.ErrType, wrongTypes())
	checkRefuses(t, "Float", rule.Float, api.ErrKind, stringTypes(), pictureTypes(), plainTypes())
}

func TestNumber(t *testing.T) {
	var l []turned
	for _, x := range numberTypes() {
		l = append(l, turned{x, x})
	}
	for _, x := range stringTypes() {
		if x.Kind == api.TChar {
			l = append(l, turned{x, dec(15, 0)})
		} else {
			l = append(l, turned{x, bin(31, 0)})
		}
	}
	checkTurns(t, "Number", rule.Number, l)
	checkRefuses(t, "Number", rule.Number, api.ErrType, wrongTypes())
	checkRefuses(t, "Number", rule.Number, api.ErrKind, pictureTypes(), plainTypes())
}

func TestNegated(t *testing.T) {
	var l []turned
	for _, x := range numberTypes() {
		l = append(l, turned{x, x})
	}
	checkTurns(t, "Negated", rule.Negated, l)
	checkRefuses(t, "Negated", rule.Negated, api.ErrType, wrongTypes())
	checkRefuses(t, "Negated", rule.Negated, api.ErrKind, stringTypes(), pictureTypes(), plainTypes())
}

func TestAssignable(t *testing.T) {
	data := []api.Type{
		bin(1, 0), bin(31, 31), dec(5, 2), dec(15, 0), float(1), float(15), char(0, false), char(250, true), bit(1, false), bit(8, true), pic("9"), pic("XX"),
	}
	all := append(plainTypes(), data...)
	for i, to := range all {
		for j, from := range all {
			n := len(plainTypes())
			want := i >= n && j >= n || i == j
			if is, e := rule.Assignable(to, from); is != want || e != api.OK {
				t.Errorf("Assignable(%+v, %+v) = %v, %d; want %v", to, from, is, e, want)
			}
		}
	}
	for _, wrong := range wrongTypes() {
		for _, x := range append(all, wrong) {
			for _, p := range [][2]api.Type{{wrong, x}, {x, wrong}} {
				if is, e := rule.Assignable(p[0], p[1]); is || e != api.ErrType {
					t.Errorf("Assignable(%+v, %+v) = %v, %d", p[0], p[1], is, e)
				}
			}
		}
	}
}
