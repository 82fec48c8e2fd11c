package digit_test

import (
	"math/big"
	"math/rand"
	"strings"
	"testing"

	"ironbark/api"
	"ironbark/digit"
)

type operator func(a, b api.Value, t api.Type) (api.Value, int, api.Errno)

type fitted struct {
	v    api.Value
	t    api.Type
	w    api.Value
	cond int
}

type reckoned struct {
	a, b api.Value
	t    api.Type
	w    api.Value
	cond int
}

func checkFits(t *testing.T, name string, f func(api.Value, api.Type) (api.Value, int, api.Errno), l []fitted) {
	t.Helper()
	for _, x := range l {
		if w, cond, e := f(x.v, x.t); w != x.w || cond != x.cond || e != api.OK {
			t.Errorf("%s(%+v, %+v) = %+v, %d, %d; want %+v, %d", name, x.v, x.t, w, cond, e, x.w, x.cond)
		}
	}
}

func checkReckons(t *testing.T, name string, f operator, l []reckoned) {
	t.Helper()
	for _, x := range l {
		if w, cond, e := f(x.a, x.b, x.t); w != x.w || cond != x.cond || e != api.OK {
			t.Errorf("%s(%+v, %+v, %+v) = %+v, %d, %d; want %+v, %d", name, x.a, x.b, x.t, w, cond, e, x.w, x.cond)
		}
	}
}

func TestFit(t *testing.T) {
	checkFits(t, "Fit", digit.Fit, []fitted{
		// the chapter's examples
		{dec(125, 2), decType(2, 1), dec(12, 1), 0},
		{dec(123, 0), decType(2, 0), dec(23, 0), api.CSize},
		{dec(-5, 1), floatType(1), float(-5, -1), 0},
		// toward zero, then the low digits with the sign
		{dec(-125, 2), decType(2, 1), dec(-12, 1), 0},
		{dec(-123, 0), decType(2, 0), dec(-23, 0), api.CSize},
		{dec(-1239, 1), decType(2, 0), dec(-23, 0), api.CSize},
		{dec(-9, 1), decType(1, 0), dec(0, 0), 0},
		{dec(-100, 0), decType(2, 0), dec(0, 0), api.CSize},
		{dec(999, 1), decType(2, 0), dec(99, 0), 0},
		{dec(100, 0), decType(2, 0), dec(0, 0), api.CSize},
		// bits
		{dec(11, 1), binType(5, 1), bin(2, 1), 0},
		{dec(-13, 0), binType(3, 0), bin(-5, 0), api.CSize},
		{bin(7, 0), binType(3, 0), bin(7, 0), 0},
		{bin(8, 0), binType(3, 0), bin(0, 0), api.CSize},
		{bin(3, 1), decType(3, 1), dec(15, 1), 0},
		{bin(1, 31), decType(15, 31), dec(873077392578125, 31), api.CSize},
		// floats far too large
		{float(1, 75), decType(15, 0), dec(0, 0), api.CSize},
		{float(1, 75), binType(31, 0), bin(0, 0), api.CSize},
		{float(-3, 10), binType(31, 0), bin(-(30000000000 % two31), 0), api.CSize},
		{float(123456789012345, 0), decType(15, 31), dec(0, 31), api.CSize},
		{float(1, -75), decType(15, 31), dec(0, 31), 0},
		{float(-1, -75), binType(31, 31), bin(0, 31), 0},
		// floats: rounding, carrying, zeros at the end
		{dec(125, 0), floatType(2), float(13, 1), 0},
		{dec(-125, 0), floatType(2), float(-13, 1), 0},
		{dec(1249, 0), floatType(2), float(12, 2), 0},
		{dec(9995, 1), floatType(3), float(1, 3), 0},
		{dec(1200, 1), floatType(15), float(12, 1), 0},
		{dec(0, 7), floatType(3), float(0, 0), 0},
		{bin(1, 31), floatType(15), float(465661287307739, -24), 0},
		{float(ten15-1, 61), floatType(1), float(0, 0), api.COverflow},
		{float(ten15-1, 60), floatType(1), float(1, 75), 0},
		{float(1, -75), floatType(1), float(1, -75), 0},
	})
}

func TestRound(t *testing.T) {
	checkFits(t, "Round", digit.Round, []fitted{
		{dec(125, 2), decType(3, 1), dec(13, 1), 0},
		{dec(-125, 2), decType(3, 1), dec(-13, 1), 0},
		{dec(124, 2), decType(3, 1), dec(12, 1), 0},
		{dec(5, 1), decType(1, 0), dec(1, 0), 0},
		{dec(-4, 1), decType(1, 0), dec(0, 0), 0},
		{dec(95, 1), decType(1, 0), dec(0, 0), api.CSize},
		{dec(-995, 1), decType(1, 0), dec(0, 0), api.CSize},
		{dec(1236, 1), decType(2, 0), dec(24, 0), api.CSize},
		{dec(125, 3), binType(5, 2), bin(1, 2), 0},
		{dec(-124, 3), binType(5, 2), bin(0, 2), 0},
		{bin(15, 1), binType(3, 0), bin(0, 0), api.CSize},
		{dec(125, 0), floatType(2), float(13, 1), 0},
		{float(ten15-1, 61), floatType(1), float(0, 0), api.COverflow},
		{float(5, -1), decType(1, 0), dec(1, 0), 0},
	})
}

func TestOperators(t *testing.T) {
	checkReckons(t, "Add", digit.Add, []reckoned{
		{dec(15, 1), dec(25, 2), decType(5, 2), dec(175, 2), 0},
		{dec(15, 1), bin(1, 2), decType(5, 2), dec(175, 2), 0},
		{dec(-15, 1), dec(15, 1), decType(5, 2), dec(0, 2), 0},
		{dec(99, 0), dec(1, 0), decType(2, 0), dec(0, 0), api.CFixedOverflow},
		{dec(-99, 0), dec(-3, 0), decType(2, 0), dec(-2, 0), api.CFixedOverflow},
		{float(9, 75), float(1, 75), floatType(3), float(0, 0), api.COverflow},
		{float(1, 75), float(1, -75), floatType(15), float(1, 75), 0},
		{float(11, -75), float(-1, -74), floatType(3), float(1, -75), 0},
		{float(11, -76), float(-1, -75), floatType(3), float(0, 0), api.CUnderflow},
	})
	checkReckons(t, "Subtract", digit.Subtract, []reckoned{
		{dec(1, 0), dec(25, 2), decType(5, 1), dec(7, 1), 0},
		{dec(1, 0), dec(3, 0), binType(1, 0), bin(0, 0), api.CFixedOverflow},
		{float(-9, 75), float(1, 75), floatType(1), float(0, 0), api.COverflow},
		{float(11, -76), float(1, -75), floatType(3), float(0, 0), api.CUnderflow},
	})
	checkReckons(t, "Multiply", digit.Multiply, []reckoned{
		{dec(15, 1), dec(-3, 0), decType(5, 1), dec(-45, 1), 0},
		{dec(99, 0), dec(99, 0), decType(3, 0), dec(801, 0), api.CFixedOverflow},
		{dec(-3, 0), dec(0, 0), decType(3, 0), dec(0, 0), 0},
		{float(1, 40), float(1, 36), floatType(3), float(0, 0), api.COverflow},
		{float(1, -40), float(1, -36), floatType(3), float(0, 0), api.CUnderflow},
		{float(999, -40), float(1, -38), floatType(2), float(1, -75), 0},
		{float(1, 75), float(1, 75), decType(2, 0), dec(0, 0), api.CFixedOverflow},
	})
	checkReckons(t, "Divide", digit.Divide, []reckoned{
		{dec(1, 0), dec(3, 0), decType(15, 14), dec(33333333333333, 14), 0},
		{dec(-2, 0), dec(3, 0), decType(5, 2), dec(-66, 2), 0},
		{dec(-2, 0), dec(-3, 0), floatType(3), float(667, -3), 0},
		{dec(1000, 0), dec(1, 0), decType(2, 0), dec(0, 0), api.CFixedOverflow},
		{dec(1, 0), dec(0, 0), decType(3, 1), dec(0, 1), api.CZeroDivide},
		{dec(0, 0), dec(0, 5), floatType(3), float(0, 0), api.CZeroDivide},
		{dec(-1, 0), float(0, 0), binType(3, 2), bin(0, 2), api.CZeroDivide},
		{dec(0, 0), dec(-3, 0), decType(3, 1), dec(0, 1), 0},
		{float(1, 75), float(1, -75), floatType(3), float(0, 0), api.COverflow},
		{float(1, -75), float(1, 75), floatType(3), float(0, 0), api.CUnderflow},
		{float(1, 75), float(3, -75), decType(5, 0), dec(33333, 0), api.CFixedOverflow},
	})
	checkReckons(t, "Modulo", digit.Modulo, []reckoned{
		{dec(7, 0), dec(3, 0), decType(5, 0), dec(1, 0), 0},
		{dec(-7, 0), dec(3, 0), decType(5, 0), dec(2, 0), 0},
		{dec(7, 0), dec(-3, 0), decType(5, 0), dec(-2, 0), 0},
		{dec(-7, 0), dec(-3, 0), decType(5, 0), dec(-1, 0), 0},
		{dec(6, 0), dec(-3, 0), decType(5, 0), dec(0, 0), 0},
		{dec(75, 1), dec(2, 0), decType(5, 1), dec(15, 1), 0},
		{dec(1, 0), dec(0, 0), decType(3, 1), dec(0, 1), api.CZeroDivide},
		{dec(99, 0), dec(100, 0), decType(1, 0), dec(9, 0), api.CSize},
		{float(7, 75), float(3, 75), floatType(1), float(1, 75), 0},
		{float(-1, -75), float(9, 75), floatType(1), float(9, 75), 0},
		{float(ten15-1, 61), float(-1, -75), decType(3, 0), dec(0, 0), 0},
		{float(-1, 60), float(ten15-1, 61), floatType(1), float(0, 0), api.COverflow},
		{float(11, -76), float(1, -75), floatType(1), float(0, 0), api.CUnderflow},
	})
}

func TestSignCompareNegate(t *testing.T) {
	for _, v := range []api.Value{bin(3, 31), dec(1, 31), float(1, -75)} {
		if n, e := digit.Sign(v); n != 1 || e != api.OK {
			t.Errorf("Sign(%+v) = %d, %d", v, n, e)
		}
		w, e := digit.Negate(v)
		if want := (api.Value{Kind: v.Kind, N: -v.N, Q: v.Q}); w != want || e != api.OK {
			t.Errorf("Negate(%+v) = %+v, %d", v, w, e)
		}
		if n, e := digit.Sign(w); n != -1 || e != api.OK {
			t.Errorf("Sign(%+v) = %d, %d", w, n, e)
		}
	}
	for _, v := range []api.Value{bin(0, 31), dec(0, 3), float(0, 0)} {
		if n, e := digit.Sign(v); n != 0 || e != api.OK {
			t.Errorf("Sign(%+v) = %d, %d", v, n, e)
		}
		if w, e := digit.Negate(v); w != v || e != api.OK {
			t.Errorf("Negate(%+v) = %+v, %d", v, w, e)
		}
	}
	for _, x := range []struct {
		a, b api.Value
		n    int
	}{
		{bin(3, 1), dec(15, 1), 0}, {dec(1, 1), bin(1, 4), 1}, {dec(10, 1), dec(1, 0), 0}, {dec(-1, 0), dec(1, 0), -1},
		{float(1, 75), dec(ten15-1, 0), 1}, {float(1, -75), dec(0, 31), 1}, {float(-1, -75), bin(0, 0), -1},
		{float(1, 1), dec(10, 0), 0}, {float(5, -1), bin(1, 1), 0}, {bin(1, 31), dec(465661287307, 21), 1},
	} {
		if n, e := digit.Compare(x.a, x.b); n != x.n || e != api.OK {
			t.Errorf("Compare(%+v, %+v) = %d, %d", x.a, x.b, n, e)
		}
		if n, e := digit.Compare(x.b, x.a); n != -x.n || e != api.OK {
			t.Errorf("Compare(%+v, %+v) = %d, %d", x.b, x.a, n, e)
		}
	}
}

func TestWhole(t *testing.T) {
	for _, x := range []struct {
		v  api.Value
		n  int
		is bool
		e  api.Errno
	}{
		{dec(-15, 1), -1, false, api.OK}, {dec(15, 1), 1, false, api.OK}, {dec(-5, 1), 0, false, api.OK}, {dec(20, 1), 2, true, api.OK},
		{bin(-7, 1), -3, false, api.OK}, {bin(8, 3), 1, true, api.OK}, {dec(0, 31), 0, true, api.OK},
		{dec(ten15-1, 0), ten15 - 1, true, api.OK}, {dec(1-ten15, 0), 1 - ten15, true, api.OK},
		{float(1, 14), ten15 / 10, true, api.OK}, {float(-1, 15), 0, false, api.ErrRange}, {float(1, 15), 0, false, api.ErrRange},
		{float(1, 75), 0, false, api.ErrRange}, {float(1, -75), 0, false, api.OK}, {float(0, 0), 0, true, api.OK},
		{float(ten15-1, 0), ten15 - 1, true, api.OK}, {float(ten15-1, 1), 0, false, api.ErrRange},
	} {
		if n, is, e := digit.Whole(x.v); n != x.n || is != x.is || e != x.e {
			t.Errorf("Whole(%+v) = %d, %v, %d", x.v, n, is, e)
		}
	}
}

// P1.3: what was fitted has the type, and fitting it again changes nothing.
func checkIdempotent(t *testing.T, w api.Value, x api.Type) {
	t.Helper()
	if !digit.Has(x, w) {
		t.Fatalf("%+v is not of %+v", w, x)
	}
	for _, f := range []func(api.Value, api.Type) (api.Value, int, api.Errno){digit.Fit, digit.Round} {
		if again, cond, e := f(w, x); again != w || cond != 0 || e != api.OK {
			t.Fatalf("%+v fitted again to %+v: %+v, %d, %d", w, x, again, cond, e)
		}
	}
}

func TestFitAgainstOracle(t *testing.T) {
	r := rand.New(rand.NewSource(3))
	for range 30000 {
		v, x := someNumber(r), someType(r)
		want, cond := fits(ratio(v), x, false, api.CSize)
		got, c, e := digit.Fit(v, x)
		if got != want || c != cond || e != api.OK {
			t.Fatalf("Fit(%+v, %+v) = %+v, %d, %d; want %+v, %d", v, x, got, c, e, want, cond)
		}
		checkIdempotent(t, got, x)
		want, cond = fits(ratio(v), x, true, api.CSize)
		if got, c, e := digit.Round(v, x); got != want || c != cond || e != api.OK {
			t.Fatalf("Round(%+v, %+v) = %+v, %d, %d; want %+v, %d", v, x, got, c, e, want, cond)
		}
	}
}

func floorOf(x *big.Rat) *big.Rat {
	// Div rounds toward what is below for a divisor above 0.
	return new(big.Rat).SetInt(new(big.Int).Div(x.Num(), x.Denom()))
}

func TestOperatorsAgainstOracle(t *testing.T) {
	r := rand.New(rand.NewSource(4))
	check := func(name string, f operator, a, b api.Value, x api.Type, exact *big.Rat, large int) {
		t.Helper()
		want, cond := fits(exact, x, false, large)
		if got, c, e := f(a, b, x); got != want || c != cond || e != api.OK {
			t.Fatalf("%s(%+v, %+v, %+v) = %+v, %d, %d; want %+v, %d", name, a, b, x, got, c, e, want, cond)
		}
	}
	for range 10000 {
		a, b, x := someNumber(r), someNumber(r), someType(r)
		m, n := ratio(a), ratio(b)
		check("Add", digit.Add, a, b, x, new(big.Rat).Add(m, n), api.CFixedOverflow)
		check("Subtract", digit.Subtract, a, b, x, new(big.Rat).Sub(m, n), api.CFixedOverflow)
		check("Multiply", digit.Multiply, a, b, x, new(big.Rat).Mul(m, n), api.CFixedOverflow)
		if n.Sign() != 0 {
			q := new(big.Rat).Quo(m, n)
			check("Divide", digit.Divide, a, b, x, q, api.CFixedOverflow)
			rest := new(big.Rat).Sub(m, new(big.Rat).Mul(n, floorOf(q)))
			check("Modulo", digit.Modulo, a, b, x, rest, api.CSize)
		}
		if c, e := digit.Compare(a, b); c != m.Cmp(n) || e != api.OK {
			t.Fatalf("Compare(%+v, %+v) = %d, %d", a, b, c, e)
		}
	}
}

// P1.2: a sum, a difference or a product in a type that holds it is exact.
func TestExact(t *testing.T) {
	r := rand.New(rand.NewSource(5))
	for range 5000 {
		a, b := dec(someInt(r, 10000), 2), dec(someInt(r, 10000), 3)
		for _, x := range []api.Type{decType(15, 5), floatType(15)} {
			for _, o := range []struct {
				f     operator
				exact *big.Rat
			}{
				{digit.Add, new(big.Rat).Add(ratio(a), ratio(b))},
				{digit.Subtract, new(big.Rat).Sub(ratio(a), ratio(b))},
				{digit.Multiply, new(big.Rat).Mul(ratio(a), ratio(b))},
			} {
				if w, cond, e := o.f(a, b, x); cond != 0 || e != api.OK || ratio(w).Cmp(o.exact) != 0 {
					t.Fatalf("%+v and %+v: %+v, %d, %d", a, b, w, cond, e)
				}
			}
		}
	}
}

// P1.2: Compare is a total order.
func TestOrder(t *testing.T) {
	r := rand.New(rand.NewSource(6))
	l := []api.Value{bin(3, 1), dec(15, 1), dec(150, 2), float(15, -1), bin(0, 3), dec(0, 9), float(0, 0)}
	for range 30 {
		l = append(l, someNumber(r))
	}
	order := func(a, b api.Value) int {
		n, e := digit.Compare(a, b)
		if e != api.OK || n < -1 || n > 1 {
			t.Fatalf("Compare(%+v, %+v) = %d, %d", a, b, n, e)
		}
		return n
	}
	for _, a := range l {
		if order(a, a) != 0 {
			t.Fatalf("%+v is not itself", a)
		}
		for _, b := range l {
			if order(a, b) != -order(b, a) {
				t.Fatalf("%+v and %+v turned", a, b)
			}
			for _, c := range l {
				if order(a, b) <= 0 && order(b, c) <= 0 && order(a, c) > 0 {
					t.Fatalf("%+v, %+v, %+v go in a circle", a, b, c)
				}
			}
		}
	}
}

// P1.5: the quotient times the divisor is not beyond the dividend, and with one unit more it is.
func TestDivided(t *testing.T) {
	r := rand.New(rand.NewSource(7))
	done := 0
	for range 20000 {
		a, b, x := someNumber(r), someNumber(r), someType(r)
		q, cond, e := digit.Divide(a, b, x)
		if x.Kind == api.TFloat || cond != 0 || e != api.OK {
			continue
		}
		done++
		m, n := new(big.Rat).Abs(ratio(a)), new(big.Rat).Abs(ratio(b))
		q.N = max(q.N, -q.N)
		if new(big.Rat).Mul(ratio(q), n).Cmp(m) > 0 {
			t.Fatalf("%+v / %+v = %+v is too much", a, b, q)
		}
		q.N++
		if new(big.Rat).Mul(ratio(q), n).Cmp(m) <= 0 {
			t.Fatalf("%+v / %+v = %+v less 1 is too little", a, b, q)
		}
	}
	if done < 1000 {
		t.Errorf("only %d quotients", done)
	}
}

// Any value and any type: which error is told, and that all else is zero beside it.
func TestErrorsOfOne(t *testing.T) {
	for _, v := range append(rightValues(), wrongValues()...) {
		want := api.OK
		if !digit.Right(v) {
			want = api.ErrInvalid
		} else if !isNumber(v.Kind) {
			want = api.ErrKind
		}
		if n, e := digit.Sign(v); e != want || e != api.OK && n != 0 {
			t.Errorf("Sign(%+v) = %d, %d", v, n, e)
		}
		if w, e := digit.Negate(v); e != want || e != api.OK && w != (api.Value{}) {
			t.Errorf("Negate(%+v) = %+v, %d", v, w, e)
		}
		if s, e := digit.Text(v); e != want || e != api.OK && s != "" {
			t.Errorf("Text(%+v) = %q, %d", v, s, e)
		}
		n, is, e := digit.Whole(v)
		if e != want && !(want == api.OK && e == api.ErrRange) || e != api.OK && (n != 0 || is) {
			t.Errorf("Whole(%+v) = %d, %v, %d", v, n, is, e)
		}
	}
}

// errorOf is the chapter's order: any value that is not valid, then a type, then a kind.
func errorOf(t api.Type, values ...api.Value) api.Errno {
	for _, v := range values {
		if !digit.Right(v) {
			return api.ErrInvalid
		}
	}
	if !digit.Valid(t) {
		return api.ErrType
	}
	for _, v := range values {
		if !isNumber(v.Kind) {
			return api.ErrKind
		}
	}
	if !isNumber(t.Kind) {
		return api.ErrKind
	}
	return api.OK
}

func TestErrorsOfMore(t *testing.T) {
	types := append(rightTypes(), wrongTypes()...)
	values := append(rightValues(), wrongValues()...)
	fits := map[string]func(api.Value, api.Type) (api.Value, int, api.Errno){"Fit": digit.Fit, "Round": digit.Round}
	for _, x := range types {
		for _, v := range values {
			for name, f := range fits {
				w, cond, e := f(v, x)
				if e != errorOf(x, v) || e != api.OK && (w != api.Value{} || cond != 0) {
					t.Fatalf("%s(%+v, %+v) = %+v, %d, %d", name, v, x, w, cond, e)
				}
			}
		}
	}
	few := []api.Value{dec(1, 0), bin(0, 0), float(-1, 75), char("1"), {Kind: api.TPtr}, {}, dec(ten15, 0), bit("2")}
	operators := map[string]operator{"Add": digit.Add, "Subtract": digit.Subtract, "Multiply": digit.Multiply, "Divide": digit.Divide, "Modulo": digit.Modulo}
	for _, a := range few {
		for _, b := range few {
			for _, x := range types {
				for name, f := range operators {
					w, cond, e := f(a, b, x)
					if e != errorOf(x, a, b) || e != api.OK && (w != api.Value{} || cond != 0) {
						t.Fatalf("%s(%+v, %+v, %+v) = %+v, %d, %d", name, a, b, x, w, cond, e)
					}
				}
			}
			n, e := digit.Compare(a, b)
			if e != errorOf(decType(1, 0), a, b) || e != api.OK && n != 0 {
				t.Fatalf("Compare(%+v, %+v) = %d, %d", a, b, n, e)
			}
		}
	}
}

// A division by 0 is asked behind all errors.
func TestZeroDivideComesLast(t *testing.T) {
	for _, f := range []operator{digit.Divide, digit.Modulo} {
		if _, cond, e := f(dec(1, 0), dec(0, 0), decType(16, 0)); cond != 0 || e != api.ErrType {
			t.Errorf("a wrong type: %d, %d", cond, e)
		}
		if _, cond, e := f(dec(1, 0), dec(0, 0), api.Type{Kind: api.TChar, N: 1}); cond != 0 || e != api.ErrKind {
			t.Errorf("a type of no numbers: %d, %d", cond, e)
		}
		if _, cond, e := f(char("1"), dec(0, 0), decType(1, 0)); cond != 0 || e != api.ErrKind {
			t.Errorf("a value that is no number: %d, %d", cond, e)
		}
	}
}

// R7: the same calls give the same results.
func TestSameAgain(t *testing.T) {
	all := func() string {
		var out strings.Builder
		r := rand.New(rand.NewSource(8))
		for range 500 {
			v, _, _ := digit.Divide(someNumber(r), someNumber(r), someType(r))
			s, _ := digit.Text(v)
			out.WriteString(s + "\n")
		}
		return out.String()
	}
	if all() != all() {
		t.Error("two ways differ")
	}
}
