package rule_test

import (
	"math/rand"
	"slices"
	"testing"

	"ironbark/api"
	"ironbark/digit"
	"ironbark/rule"
)

var signs = []string{"+", "-", "*", "/", "**"}

type resulting struct{ a, b, want api.Type }

func checkResults(t *testing.T, op string, l []resulting) {
	t.Helper()
	for _, x := range l {
		if r, e := rule.Result(op, x.a, x.b); r != x.want || e != api.OK {
			t.Errorf("Result(%q, %+v, %+v) = %+v, %d; want %+v", op, x.a, x.b, r, e, x.want)
		}
	}
}

func TestSums(t *testing.T) {
	for _, op := range []string{"+", "-"} {
		checkResults(t, op, []resulting{
			{dec(5, 2), dec(3, 1), dec(6, 2)}, // the chapter's example
			{dec(1, 0), dec(1, 0), dec(2, 0)}, {dec(3, 1), dec(5, 2), dec(6, 2)}, {dec(7, 0), dec(5, 4), dec(12, 4)},
			// the greatest precision
			{dec(14, 0), dec(1, 0), dec(15, 0)}, {dec(15, 0), dec(1, 0), dec(15, 0)}, {dec(15, 0), dec(15, 15), dec(15, 15)}, {dec(15, 0), dec(1, 31), dec(15, 31)},
			{bin(30, 0), bin(1, 0), bin(31, 0)}, {bin(31, 0), bin(31, 0), bin(31, 0)}, {bin(20, 2), bin(15, 5), bin(24, 5)},
			// whole parts below 0
			{dec(1, 31), dec(1, 31), dec(2, 31)}, {dec(1, 20), dec(5, 31), dec(13, 31)}, {bin(3, 10), bin(2, 6), bin(7, 10)},
			// binary, if one is
			{dec(5, 0), bin(15, 0), bin(19, 0)}, {bin(10, 4), dec(5, 2), bin(19, 7)}, {dec(15, 31), bin(1, 0), bin(31, 31)},
			// float, if one is
			{float(3), float(9), float(9)}, {float(3), dec(7, 2), float(7)}, {dec(2, 0), float(5), float(5)}, {float(3), bin(31, 0), float(10)}, {bin(4, 4), float(1), float(2)},
		})
	}
}

func TestProducts(t *testing.T) {
	checkResults(t, "*", []resulting{
		{dec(3, 1), dec(2, 0), dec(6, 1)}, // the document's example
		{dec(5, 2), dec(3, 1), dec(9, 3)}, {dec(7, 0), dec(7, 0), dec(15, 0)}, {dec(8, 0), dec(7, 0), dec(15, 0)}, {dec(15, 0), dec(15, 0), dec(15, 0)},
		{dec(1, 15), dec(1, 15), dec(3, 30)}, {dec(1, 16), dec(1, 15), dec(3, 31)}, {dec(1, 16), dec(1, 16), dec(3, 31)}, {dec(1, 31), dec(1, 31), dec(3, 31)},
		{bin(15, 0), bin(15, 0), bin(31, 0)}, {bin(16, 3), bin(15, 4), bin(31, 7)}, {bin(31, 31), bin(31, 31), bin(31, 31)}, {bin(1, 0), bin(1, 1), bin(3, 1)},
		{dec(3, 1), bin(5, 2), bin(17, 6)}, {bin(5, 2), dec(3, 1), bin(17, 6)},
		{float(3), float(9), float(9)}, {float(3), bin(7, 7), float(3)}, {dec(15, 2), float(1), float(15)},
	})
}

func TestQuotients(t *testing.T) {
	checkResults(t, "/", []resulting{
		{dec(5, 0), dec(5, 0), dec(15, 10)}, // the chapter's example
		{dec(1, 0), dec(15, 0), dec(15, 14)}, {dec(15, 0), dec(1, 0), dec(15, 0)}, {dec(5, 2), dec(3, 1), dec(15, 11)},
		{dec(15, 0), dec(5, 1), dec(15, 0)}, {dec(15, 0), dec(5, 31), dec(15, 0)},
		{dec(1, 17), dec(1, 0), dec(15, 31)}, {dec(1, 18), dec(1, 0), dec(15, 31)}, {dec(1, 31), dec(1, 0), dec(15, 31)}, {dec(1, 31), dec(1, 31), dec(15, 14)},
		{bin(5, 2), bin(7, 3), bin(31, 25)}, {bin(31, 0), bin(1, 0), bin(31, 0)}, {bin(31, 0), bin(1, 1), bin(31, 0)}, {bin(1, 2), bin(1, 0), bin(31, 31)}, {bin(1, 1), bin(31, 0), bin(31, 31)}, {bin(1, 0), bin(31, 0), bin(31, 30)},
		{dec(5, 2), bin(7, 3), bin(31, 17)}, {bin(7, 3), dec(5, 2), bin(31, 20)},
		{float(3), float(9), float(9)}, {float(3), bin(31, 31), float(10)}, {dec(9, 9), float(2), float(9)},
	})
}

func TestPowers(t *testing.T) {
	checkResults(t, "**", []resulting{
		{dec(5, 0), dec(2, 0), float(5)}, {dec(2, 0), dec(5, 5), float(5)}, {bin(31, 0), bin(1, 0), float(10)}, {bin(3, 0), bin(4, 31), float(2)},
		{float(3), float(9), float(9)}, {float(9), bin(31, 0), float(10)}, {dec(7, 0), float(6), float(7)},
		// each as float by itself, not by way of binary
		{dec(2, 0), bin(31, 0), float(10)}, {dec(15, 31), bin(1, 0), float(15)}, {bin(1, 0), dec(3, 0), float(3)},
	})
}

func TestResultErrors(t *testing.T) {
	right, wrong := dec(5, 0), dec(16, 0)
	for _, x := range []struct {
		op   string
		a, b api.Type
		e    api.Errno
	}{
		{"+", wrong, right, api.ErrType}, {"+", right, wrong, api.ErrType}, {"+", char(1, false), wrong, api.ErrType}, {"%", right, wrong, api.ErrType}, {"%", wrong, plain(api.TPtr), api.ErrType},
		{"+", right, char(1, false), api.ErrKind}, {"-", bit(1, true), right, api.ErrKind}, {"*", pic("9"), right, api.ErrKind}, {"/", float(3), pic("9"), api.ErrKind},
		{"**", plain(api.TPtr), right, api.ErrKind}, {"+", plain(api.TLabel), right, api.ErrKind}, {"+", right, plain(api.TEntry), api.ErrKind}, {"%", char(1, false), right, api.ErrKind}, {"", right, pic("9"), api.ErrKind},
		{"%", right, right, api.ErrName}, {"", right, right, api.ErrName}, {"++", right, right, api.ErrName}, {"***", right, right, api.ErrName}, {" +", right, right, api.ErrName}, {"||", float(1), right, api.ErrName}, {"\xff", bin(1, 0), right, api.ErrName},
	} {
		if r, e := rule.Result(x.op, x.a, x.b); r != (api.Type{}) || e != x.e {
			t.Errorf("Result(%q, %+v, %+v) = %+v, %d; want %d", x.op, x.a, x.b, r, e, x.e)
		}
	}
	for _, op := range signs {
		for _, x := range wrongTypes() {
			for _, p := range [][2]api.Type{{x, right}, {right, x}, {x, pic("9")}} {
				if r, e := rule.Result(op, p[0], p[1]); r != (api.Type{}) || e != api.ErrType {
					t.Errorf("Result(%q, %+v, %+v) = %+v, %d", op, p[0], p[1], r, e)
				}
			}
		}
	}
}

func TestCommon(t *testing.T) {
	for _, x := range []struct {
		l    []api.Type
		want api.Type
	}{
		{[]api.Type{dec(5, 2)}, dec(5, 2)}, {[]api.Type{bin(31, 31)}, bin(31, 31)}, {[]api.Type{float(7)}, float(7)}, {[]api.Type{dec(1, 31)}, dec(1, 31)},
		{[]api.Type{dec(5, 2), dec(3, 0)}, dec(5, 2)}, {[]api.Type{dec(5, 2), dec(3, 1)}, dec(5, 2)}, {[]api.Type{dec(5, 2), dec(5, 1)}, dec(6, 2)},
		{[]api.Type{dec(15, 0), dec(1, 1)}, dec(15, 1)}, {[]api.Type{dec(1, 31), dec(1, 31)}, dec(1, 31)}, {[]api.Type{dec(1, 20), dec(5, 31)}, dec(12, 31)},
		{[]api.Type{bin(31, 0), bin(3, 2)}, bin(31, 2)}, {[]api.Type{bin(20, 2), bin(15, 5)}, bin(23, 5)}, {[]api.Type{bin(5, 0), dec(3, 0)}, bin(11, 0)},
		{[]api.Type{float(3), bin(31, 0)}, float(10)}, {[]api.Type{dec(12, 3), float(3)}, float(12)}, {[]api.Type{float(3), float(2)}, float(3)},
		{[]api.Type{dec(5, 0), dec(3, 2), dec(4, 1)}, dec(7, 2)}, {[]api.Type{dec(2, 0), dec(3, 0), dec(9, 0), dec(1, 0)}, dec(9, 0)},
		// from the left: the decimal type is binary first, and loses digits as float
		{[]api.Type{dec(15, 0), bin(1, 0), float(1)}, float(10)}, {[]api.Type{bin(1, 0), float(1), dec(15, 0)}, float(15)},
		{[]api.Type{dec(15, 1), dec(15, 15), bin(1, 0)}, bin(31, 31)},
	} {
		if r, e := rule.Common(x.l); r != x.want || e != api.OK {
			t.Errorf("Common(%+v) = %+v, %d; want %+v", x.l, r, e, x.want)
		}
	}
}

func TestCommonErrors(t *testing.T) {
	right, wrong := dec(5, 0), dec(5, 32)
	for _, x := range []struct {
		l []api.Type
		e api.Errno
	}{
		{nil, api.ErrNone}, {[]api.Type{}, api.ErrNone},
		{[]api.Type{wrong}, api.ErrType}, {[]api.Type{right, right, wrong}, api.ErrType}, {[]api.Type{char(1, false), wrong}, api.ErrType}, {[]api.Type{{}}, api.ErrType},
		{[]api.Type{char(1, false)}, api.ErrKind}, {[]api.Type{right, bit(1, false)}, api.ErrKind}, {[]api.Type{float(1), right, pic("9")}, api.ErrKind}, {[]api.Type{plain(api.TPtr), plain(api.TPtr)}, api.ErrKind}, {[]api.Type{plain(api.TEntry)}, api.ErrKind},
	} {
		if r, e := rule.Common(x.l); r != (api.Type{}) || e != x.e {
			t.Errorf("Common(%+v) = %+v, %d; want %d", x.l, r, e, x.e)
		}
	}
}

// R4: a list is neither modified nor grown into.
func TestCommonKeepsItsList(t *testing.T) {
	l := []api.Type{dec(15, 0), bin(1, 0), float(1), dec(9, 9)}
	before := slices.Clone(l)
	if _, e := rule.Common(l[:2]); e != api.OK || !slices.Equal(l, before) {
		t.Errorf("%+v, %d", l, e)
	}
}

// somePairs calls a function for types at the ends of all ranges, and for others between them.
func somePairs(f func(a, b api.Type)) {
	var ends []api.Type
	for _, x := range numberTypes() {
		if (x.P < 3 || x.P%7 < 2 || x.P > 29) && (x.Q < 2 || x.Q%15 < 2) {
			ends = append(ends, x)
		}
	}
	for _, a := range ends {
		for _, b := range ends {
			f(a, b)
		}
	}
	r, all := rand.New(rand.NewSource(1)), numberTypes()
	for range 20000 {
		f(all[r.Intn(len(all))], all[r.Intn(len(all))])
	}
}

// P2.1: what is returned is valid, and P2.3: the order does not count, where it is said.
func TestResultsAreValidAndTurned(t *testing.T) {
	common := func(a, b api.Type) (api.Type, api.Errno) { return rule.Common([]api.Type{a, b}) }
	somePairs(func(a, b api.Type) {
		for _, op := range signs {
			r, e := rule.Result(op, a, b)
			if e != api.OK || !digit.Valid(r) {
				t.Fatalf("Result(%q, %+v, %+v) = %+v, %d", op, a, b, r, e)
			}
			if s, _ := rule.Result(op, b, a); op != "/" && s != r {
				t.Fatalf("Result(%q) of %+v and %+v is %+v or %+v", op, a, b, r, s)
			}
		}
		r, e := common(a, b)
		if s, _ := common(b, a); s != r || e != api.OK || !digit.Valid(r) {
			t.Fatalf("Common of %+v and %+v is %+v or %+v, %d", a, b, r, s, e)
		}
	})
	for _, f := range []func(api.Type) (api.Type, api.Errno){rule.Binary, rule.Decimal, rule.Float, rule.Number, rule.Negated} {
		for _, x := range fixedTypes() {
			if r, e := f(x); e != api.OK || !digit.Valid(r) {
				t.Fatalf("%+v becomes %+v, %d", x, r, e)
			}
		}
	}
}

// greatest is the greatest number of a fixed type.
func greatest(x api.Type) api.Value {
	n, base := 1, 10
	if x.Kind == api.TBin {
		base = 2
	}
	for range x.P {
		n *= base
	}
	return api.Value{Kind: x.Kind, N: n - 1, Q: x.Q}
}

// uncut reports whether an operator's result was cut neither by the greatest precision nor by the greatest scale.
func uncut(op string, a, b api.Type) bool {
	most := api.MaxDec
	if a.Kind == api.TBin {
		most = api.MaxBin
	}
	if op == "*" {
		return a.P+b.P+1 <= most && a.Q+b.Q <= api.MaxScale
	}
	return max(a.P-a.Q, b.P-b.Q)+max(a.Q, b.Q)+1 <= most
}

// P2.2: sums, differences and products of the greatest numbers fit exactly, whatever their signs.
func TestRoom(t *testing.T) {
	reckon := map[string]func(a, b api.Value, t api.Type) (api.Value, int, api.Errno){"+": digit.Add, "-": digit.Subtract, "*": digit.Multiply}
	tried := 0
	somePairs(func(a, b api.Type) {
		if a.Kind != b.Kind || a.Kind == api.TFloat {
			return
		}
		for _, op := range []string{"+", "-", "*"} {
			if !uncut(op, a, b) {
				continue
			}
			r, _ := rule.Result(op, a, b)
			x, y := greatest(a), greatest(b)
			minus := y
			minus.N = -y.N
			for _, z := range []api.Value{y, minus} {
				tried++
				if v, cond, e := reckon[op](x, z, r); cond != 0 || e != api.OK || !digit.Has(r, v) {
					t.Fatalf("%+v %s %+v in %+v is %+v, %d, %d", x, op, z, r, v, cond, e)
				}
			}
		}
	})
	if tried < 1000 {
		t.Errorf("only %d tried", tried)
	}
}
