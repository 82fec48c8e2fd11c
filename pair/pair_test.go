package pair_test

import (
	"testing"

	"ironbark/api"
	"ironbark/pair"
)

// number is a pair with its type.
type number struct {
	api.Pair
	of api.Type
}

func tbin(p, q int) api.Type { return api.Type{Kind: api.TBin, P: p, Q: q} }

func tdec(p, q int) api.Type { return api.Type{Kind: api.TDec, P: p, Q: q} }

func tfloat(p int) api.Type { return api.Type{Kind: api.TFloat, P: p} }

func tchar(n int) api.Type { return api.Type{Kind: api.TChar, N: n} }

func vbin(n, q int) api.Value { return api.Value{Kind: api.TBin, N: n, Q: q} }

func vdec(n, q int) api.Value { return api.Value{Kind: api.TDec, N: n, Q: q} }

func vfloat(n, q int) api.Value { return api.Value{Kind: api.TFloat, N: n, Q: q} }

func text(s string) api.Value { return api.Value{Kind: api.TChar, S: s} }

func both(re, im api.Value) api.Pair { return api.Pair{Re: re, Im: im} }

// bin and dec are pairs of P bits or digits with a scale.
func bin(re, im, p, q int) number { return number{both(vbin(re, q), vbin(im, q)), tbin(p, q)} }

func dec(re, im, p, q int) number { return number{both(vdec(re, q), vdec(im, q)), tdec(p, q)} }

// float is a pair of P digits with an exponent for each part.
func float(re, reQ, im, imQ, p int) number {
	return number{both(vfloat(re, reQ), vfloat(im, imQ)), tfloat(p)}
}

// noughts is the pair of zeros of a type of numbers.
func noughts(of api.Type) number {
	zero := api.Value{Kind: of.Kind, Q: of.Q}
	return number{both(zero, zero), of}
}

const (
	mostDec = 999_999_999_999_999
	mostBin = 1<<31 - 1
	third   = 300_000_000_000_000
)

type done struct {
	op   string
	x, y number
	want number
	cond int
}

func checkDone(t *testing.T, l []done) {
	t.Helper()
	for _, x := range l {
		z, of, cond, e := pair.Do(x.op, x.x.Pair, x.y.Pair, x.x.of, x.y.of)
		if z != x.want.Pair || of != x.want.of || cond != x.cond || e != api.OK {
			t.Errorf("%+v %s %+v = %+v, %+v, %d, %d; want %+v, %d", x.x, x.op, x.y, z, of, cond, e, x.want, x.cond)
		}
	}
}

func TestSumsAndDifferences(t *testing.T) {
	checkDone(t, []done{
		{"+", dec(125, 250, 3, 2), dec(25, -1, 2, 1), dec(375, 240, 4, 2), 0},
		{"-", dec(125, 250, 3, 2), dec(25, -1, 2, 1), dec(-125, 260, 4, 2), 0},
		{"-", dec(7, -3, 1, 0), dec(7, 3, 1, 0), dec(0, -6, 2, 0), 0},
		{"+", dec(99, -99, 2, 0), dec(1, -1, 2, 0), dec(100, -100, 3, 0), 0},
		{"+", bin(3, 0, 3, 0), dec(1, 1, 1, 1), bin(49, 1, 8, 4), 0},
		{"+", float(1, 0, 5, 0, 1), dec(25, -25, 2, 2), float(13, -1, 48, -1, 2), 0},
		// With a condition of either part both are 0.
		{"+", dec(mostDec, 5, 15, 0), dec(1, 1, 1, 0), noughts(tdec(15, 0)), api.CFixedOverflow},
		{"+", dec(5, mostDec, 15, 0), dec(1, 2, 1, 0), noughts(tdec(15, 0)), api.CFixedOverflow},
		{"-", dec(5, -mostDec, 15, 0), dec(1, 2, 1, 0), noughts(tdec(15, 0)), api.CFixedOverflow},
		{"-", bin(-mostBin, 1, 31, 0), bin(1, 1, 1, 0), noughts(tbin(31, 0)), api.CFixedOverflow},
		// Re is asked first.
		{"+", float(9, 75, 11, -75, 3), float(9, 75, -105, -76, 3), noughts(tfloat(3)), api.COverflow},
		{"+", float(11, -75, 9, 75, 3), float(-105, -76, 9, 75, 3), noughts(tfloat(3)), api.CUnderflow},
		{"-", float(9, 75, 11, -75, 3), float(-9, 75, 105, -76, 3), noughts(tfloat(3)), api.COverflow},
		{"-", float(11, -75, 9, 75, 3), float(105, -76, -9, 75, 3), noughts(tfloat(3)), api.CUnderflow},
	})
}

func TestProducts(t *testing.T) {
	checkDone(t, []done{
		{"*", dec(1, 2, 1, 0), dec(3, -1, 1, 0), dec(5, 5, 3, 0), 0}, // the chapter's example
		{"*", dec(0, 1, 1, 0), dec(0, 1, 1, 0), dec(-1, 0, 3, 0), 0},
		{"*", dec(15, -5, 2, 1), dec(2, 3, 1, 0), dec(45, 35, 4, 1), 0},
		{"*", bin(3, 1, 2, 1), bin(1, -1, 1, 0), bin(4, -2, 4, 1), 0},
		{"*", float(9, 75, 1, 0, 1), float(0, 0, 0, 0, 2), noughts(tfloat(2)), 0},
		// An operand is not brought to the common base first: 0.1 would be 1/16.
		{"*", bin(3, 0, 3, 0), dec(1, 0, 1, 1), bin(4, 0, 9, 4), 0},
		// Each step is cut: 21, 9, 27 and 7 in the 32nd place are 2, 0, 2 and 0 in the 31st.
		{"*", dec(3, 1, 1, 16), dec(7, 9, 1, 16), dec(2, 2, 3, 31), 0},
		// Each step is rounded: 16, 9, 12 and 12 are 2E1, 9, 1E1 and 1E1, and 11 is 1E1.
		{"*", float(4, 0, 3, 0, 1), float(4, 0, 3, 0, 1), float(1, 1, 2, 1, 1), 0},
	})
}

func TestProductsWithConditions(t *testing.T) {
	checkDone(t, []done{
		// in one of the four products
		{"*", dec(mostDec, 0, 15, 0), dec(2, 0, 1, 0), noughts(tdec(15, 0)), api.CFixedOverflow},
		{"*", dec(0, mostDec, 15, 0), dec(0, 2, 1, 0), noughts(tdec(15, 0)), api.CFixedOverflow},
		{"*", dec(mostDec, 0, 15, 0), dec(0, 2, 1, 0), noughts(tdec(15, 0)), api.CFixedOverflow},
		{"*", dec(0, mostDec, 15, 0), dec(2, 0, 1, 0), noughts(tdec(15, 0)), api.CFixedOverflow},
		// in Re alone, and in Im alone
		{"*", dec(third, third, 15, 0), dec(3, -3, 1, 0), noughts(tdec(15, 0)), api.CFixedOverflow},
		{"*", dec(third, third, 15, 0), dec(3, 3, 1, 0), noughts(tdec(15, 0)), api.CFixedOverflow},
		// Re * Re ahead of Im * Im, Re * Im ahead of Im * Re
		{"*", float(1, 40, 1, -40, 1), float(1, 40, 1, -40, 1), noughts(tfloat(1)), api.COverflow},
		{"*", float(1, -40, 1, 40, 1), float(1, -40, 1, 40, 1), noughts(tfloat(1)), api.CUnderflow},
		{"*", float(1, 40, 1, -40, 1), float(1, -40, 1, 40, 1), noughts(tfloat(1)), api.COverflow},
		{"*", float(1, -40, 1, 40, 1), float(1, 40, 1, -40, 1), noughts(tfloat(1)), api.CUnderflow},
	})
}

func TestQuotients(t *testing.T) {
	checkDone(t, []done{
		{"/", dec(1, 2, 1, 0), dec(3, -1, 1, 0), float(1, -1, 7, -1, 1), 0},
		{"/", dec(5, 5, 3, 0), dec(1, 2, 1, 0), float(3, 0, -1, 0, 3), 0},
		{"/", dec(0, 0, 1, 0), dec(1, 2, 1, 0), noughts(tfloat(1)), 0},
		{"/", dec(1, 0, 1, 0), dec(0, 2, 1, 0), float(0, 0, -5, -1, 1), 0},
		// The type is one of floats, whatever the operands are.
		{"/", bin(1, 0, 31, 0), dec(300, 0, 5, 2), float(3333333333, -10, 0, 0, 10), 0},
		{"/", float(1, 0, 1, 0, 3), bin(1, 1, 1, 1), float(2, 0, 0, 0, 3), 0},
		// Each step is rounded: 16 is 2E1, and 29 is 3E1.
		{"/", dec(1, 0, 1, 0), dec(4, 3, 1, 0), float(1, -1, -1, -1, 1), 0},
	})
}

func TestQuotientsWithConditions(t *testing.T) {
	zero, over, under := noughts(tfloat(1)), api.COverflow, api.CUnderflow
	checkDone(t, []done{
		{"/", dec(1, 2, 1, 0), dec(0, 0, 1, 0), zero, api.CZeroDivide},
		{"/", dec(0, 0, 1, 0), dec(0, 0, 1, 0), zero, api.CZeroDivide},
		{"/", float(9, 75, 9, 75, 1), float(0, 0, 0, 0, 1), zero, api.CZeroDivide},
		{"/", bin(1, 1, 31, 0), bin(0, 0, 4, 2), noughts(tfloat(10)), api.CZeroDivide},
		// the two squares, in their order, and their sum
		{"/", float(1, 0, 0, 0, 1), float(1, 40, 1, -40, 1), zero, over},
		{"/", float(1, 0, 0, 0, 1), float(1, -40, 1, 40, 1), zero, under},
		{"/", float(1, 0, 0, 0, 1), float(9, 37, 9, 37, 1), zero, over},
		// the squares ahead of the products
		{"/", float(1, 60, 0, 0, 1), float(1, 30, 1, -40, 1), zero, under},
		// Re * Re ahead of Im * Im, Im * Re ahead of Re * Im
		{"/", float(1, 60, 1, -60, 1), float(1, 20, 1, -20, 1), zero, over},
		{"/", float(1, -60, 1, 60, 1), float(1, -20, 1, 20, 1), zero, under},
		{"/", float(1, -60, 1, 60, 1), float(1, 20, 1, -20, 1), zero, over},
		{"/", float(1, 60, 1, -60, 1), float(1, -20, 1, 20, 1), zero, under},
		// the quotient for Re ahead of the products for Im
		{"/", float(1, 75, 1, -75, 1), float(1, -5, 0, 0, 1), zero, over},
		{"/", float(1, -70, 1, 60, 1), float(1, 30, 0, 0, 1), zero, under},
		// in the sum for Re, the difference for Im, and the quotient for Im alone
		{"/", float(9, 75, 9, 75, 1), float(1, 0, 1, 0, 1), zero, over},
		{"/", float(9, 75, 9, 75, 1), float(1, 0, -1, 0, 1), zero, over},
		{"/", float(0, 0, 1, 75, 1), float(1, -5, 0, 0, 1), zero, over},
		{"/", float(0, 0, 1, -75, 1), float(1, 5, 0, 0, 1), zero, under},
	})
}

func TestPower(t *testing.T) {
	for _, x := range []struct {
		x    number
		n    int
		want number
		cond int
	}{
		{dec(1, 1, 1, 0), 2, float(0, 0, 2, 0, 1), 0},
		{dec(7, 3, 1, 0), 0, float(1, 0, 0, 0, 1), 0},
		{dec(0, 0, 5, 2), 0, float(1, 0, 0, 0, 5), 0},
		{dec(0, 0, 1, 0), 100, float(0, 0, 0, 0, 1), 0},
		{dec(0, 1, 1, 0), 3, float(0, 0, -1, 0, 1), 0},
		{dec(0, 1, 1, 0), 99, float(0, 0, -1, 0, 1), 0},
		{dec(0, 1, 1, 0), 100, float(1, 0, 0, 0, 1), 0},
		{float(15, 0, -15, 70, 2), 1, float(15, 0, -15, 70, 2), 0},
		{bin(mostBin, -mostBin, 31, 0), 1, float(mostBin, 0, -mostBin, 0, 10), 0},
		// x is fitted first: 0.8125 is 0.81, and 0.66 times that is 0.53, not 0.54.
		{bin(7, 1, 3, 3), 1, float(9, -1, 1, -1, 1), 0},
		{bin(13, 0, 4, 4), 3, float(53, -2, 0, 0, 2), 0},
		// Each step is fitted, from the highest bit on: 3+4I, 2+1E1I and -1E2+4E1I; -7+24I is -1E1+2E1I.
		{dec(2, 1, 1, 0), 3, float(2, 0, 1, 1, 1), 0},
		{dec(2, 1, 1, 0), 4, float(-1, 1, 2, 1, 1), 0},
		{dec(2, 1, 1, 0), 6, float(-1, 2, 4, 1, 1), 0},
		// The first condition ends it.
		{float(1, 40, 0, 0, 1), 2, noughts(tfloat(1)), api.COverflow},
		{float(1, -40, 0, 0, 1), 2, noughts(tfloat(1)), api.CUnderflow},
		{float(1, 40, 1, -40, 1), 2, noughts(tfloat(1)), api.COverflow},
		{float(1, -40, 1, 40, 1), 2, noughts(tfloat(1)), api.CUnderflow},
		{float(0, 0, 1, 30, 3), 3, noughts(tfloat(3)), api.COverflow},
		{dec(9, 9, 1, 0), 100, noughts(tfloat(1)), api.COverflow},
		{dec(1, 1, 1, 1), 100, noughts(tfloat(1)), api.CUnderflow},
	} {
		if z, of, cond, e := pair.Power(x.x.Pair, x.n, x.x.of); z != x.want.Pair || of != x.want.of || cond != x.cond || e != api.OK {
			t.Errorf("Power(%+v, %d) = %+v, %+v, %d, %d; want %+v, %d", x.x, x.n, z, of, cond, e, x.want, x.cond)
		}
	}
}

func TestNorm(t *testing.T) {
	for _, x := range []struct {
		x    number
		want api.Value
		of   api.Type
		cond int
	}{
		{dec(3, 4, 1, 0), vdec(25, 0), tdec(3, 0), 0},
		{dec(-3, -4, 1, 0), vdec(25, 0), tdec(3, 0), 0},
		{dec(0, 0, 3, 1), vdec(0, 2), tdec(7, 2), 0},
		{dec(15, -20, 2, 1), vdec(625, 2), tdec(5, 2), 0},
		{bin(3, 1, 2, 1), vbin(10, 2), tbin(5, 2), 0},
		// Each step is fitted: 9 and 9 in the 32nd place are 0, and 16 and 9 are 2E1 and 9.
		{dec(3, 3, 1, 16), vdec(0, 31), tdec(3, 31), 0},
		{float(4, 0, 3, 0, 1), vfloat(3, 1), tfloat(1), 0},
		{dec(mostDec, 0, 15, 0), vdec(0, 0), tdec(15, 0), api.CFixedOverflow},
		{dec(0, mostDec, 15, 0), vdec(0, 0), tdec(15, 0), api.CFixedOverflow},
		{dec(30_000_000, 30_000_000, 15, 0), vdec(0, 0), tdec(15, 0), api.CFixedOverflow},
		{bin(0, mostBin, 31, 0), vbin(0, 0), tbin(31, 0), api.CFixedOverflow},
		{float(1, 40, 1, -40, 1), vfloat(0, 0), tfloat(1), api.COverflow},
		{float(1, -40, 1, 40, 1), vfloat(0, 0), tfloat(1), api.CUnderflow},
		{float(9, 37, 9, 37, 1), vfloat(0, 0), tfloat(1), api.COverflow},
	} {
		if v, of, cond, e := pair.Norm(x.x.Pair, x.x.of); v != x.want || of != x.of || cond != x.cond || e != api.OK {
			t.Errorf("Norm(%+v) = %+v, %+v, %d, %d; want %+v, %+v, %d", x.x, v, of, cond, e, x.want, x.of, x.cond)
		}
	}
}

func TestEqual(t *testing.T) {
	half := []api.Value{vdec(5, 1), vdec(500, 3), vbin(1, 1), vfloat(5, -1)}
	near := []api.Value{vdec(-5, 1), vdec(51, 2), vbin(3, 2), vfloat(500000000000001, -15)}
	is := func(x, y api.Pair, want bool) {
		t.Helper()
		if is, e := pair.Equal(x, y); is != want || e != api.OK {
			t.Errorf("Equal(%+v, %+v) is %v, %d", x, y, is, e)
		}
	}
	for i, a := range half {
		for _, b := range half {
			is(both(a, b), both(b, a), true)
			is(both(a, vdec(0, 0)), both(b, vfloat(0, 0)), true)
			is(both(a, vdec(1, 0)), both(vbin(1, 0), b), false)
			is(both(a, near[i]), both(a, b), false)
			is(both(near[i], a), both(b, a), false)
			is(both(near[i], near[i]), both(a, b), false)
		}
	}
}

func TestConjugate(t *testing.T) {
	for _, x := range []struct{ x, want api.Pair }{
		{both(vdec(3, 0), vdec(4, 0)), both(vdec(3, 0), vdec(-4, 0))},
		{both(vdec(-3, 1), vdec(-mostDec, 1)), both(vdec(-3, 1), vdec(mostDec, 1))},
		{both(vdec(0, 31), vdec(0, 31)), both(vdec(0, 31), vdec(0, 31))},
		{both(vbin(0, 0), vbin(-mostBin, 31)), both(vbin(0, 0), vbin(mostBin, 31))},
		{both(vfloat(1, 75), vfloat(-3, -75)), both(vfloat(1, 75), vfloat(3, -75))},
		// Two kinds are not asked after.
		{both(vdec(1, 2), vfloat(1, 3)), both(vdec(1, 2), vfloat(-1, 3))},
		{both(vfloat(1, 2), vbin(1, 3)), both(vfloat(1, 2), vbin(-1, 3))},
	} {
		if z, e := pair.Conjugate(x.x); z != x.want || e != api.OK {
			t.Errorf("Conjugate(%+v) = %+v, %d", x.x, z, e)
		}
	}
}

func TestFit(t *testing.T) {
	for _, x := range []struct {
		x    api.Pair
		of   api.Type
		want api.Pair
		cond int
	}{
		{both(vdec(125, 2), vdec(-125, 2)), tdec(2, 1), both(vdec(12, 1), vdec(-12, 1)), 0},
		{both(vdec(-5, 1), vdec(15, 1)), tfloat(1), both(vfloat(-5, -1), vfloat(2, 0)), 0},
		{both(vdec(9, 1), vdec(-9, 1)), tbin(1, 0), both(vbin(0, 0), vbin(0, 0)), 0},
		// Both parts are as fitted, whichever has a condition.
		{both(vdec(-123, 0), vdec(45, 0)), tdec(2, 0), both(vdec(-23, 0), vdec(45, 0)), api.CSize},
		{both(vdec(45, 0), vdec(-123, 0)), tdec(2, 0), both(vdec(45, 0), vdec(-23, 0)), api.CSize},
		{both(vdec(123, 0), vdec(-456, 0)), tdec(2, 0), both(vdec(23, 0), vdec(-56, 0)), api.CSize},
		{both(vbin(9, 0), vbin(5, 0)), tbin(3, 0), both(vbin(1, 0), vbin(5, 0)), api.CSize},
		{both(vfloat(96, 74), vfloat(24, 0)), tfloat(1), both(vfloat(0, 0), vfloat(2, 1)), api.COverflow},
		{both(vfloat(24, 0), vfloat(96, 74)), tfloat(1), both(vfloat(2, 1), vfloat(0, 0)), api.COverflow},
		// Two kinds are not asked after.
		{both(vbin(3, 1), vfloat(25, -1)), tdec(3, 1), both(vdec(15, 1), vdec(25, 1)), 0},
		{both(vfloat(1, 75), vbin(3, 1)), tdec(1, 0), both(vdec(0, 0), vdec(1, 0)), api.CSize},
	} {
		if z, cond, e := pair.Fit(x.x, x.of); z != x.want || cond != x.cond || e != api.OK {
			t.Errorf("Fit(%+v, %+v) = %+v, %d, %d; want %+v, %d", x.x, x.of, z, cond, e, x.want, x.cond)
		}
	}
}

func TestHas(t *testing.T) {
	for _, x := range []number{dec(1, -9, 1, 0), dec(mostDec, -mostDec, 15, 31), dec(0, 0, 1, 5), bin(mostBin, -mostBin, 31, 0), bin(1, 0, 1, 31), float(1, 75, -9, -75, 1), float(0, 0, mostDec, 0, 15)} {
		if !pair.Has(x.of, x.Pair) {
			t.Errorf("%+v is not of its type", x)
		}
	}
	for _, x := range append(strangers(), noNumbers()...) {
		if pair.Has(x.of, x.Pair) {
			t.Errorf("%+v is of a type", x)
		}
	}
	for _, v := range wrongValues() {
		for _, of := range append(wrongTypes(), tdec(1, 0), tbin(1, 0), tfloat(1)) {
			if pair.Has(of, both(v, vdec(1, 0))) || pair.Has(of, both(vdec(1, 0), v)) || pair.Has(of, both(v, v)) {
				t.Errorf("a pair with %+v is of %+v", v, of)
			}
		}
	}
	for _, of := range wrongTypes() {
		for _, v := range []api.Value{vdec(1, 0), vbin(1, 0), vfloat(1, 0), text("")} {
			if pair.Has(of, both(v, v)) {
				t.Errorf("a pair of %+v is of %+v", v, of)
			}
		}
	}
}
