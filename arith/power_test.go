package arith_test

import (
	"math/rand"
	"testing"

	"ironbark/api"
	"ironbark/arith"
	"ironbark/digit"
)

func TestPowers(t *testing.T) {
	checkDone(t, []done{
		{"**", dec(2, 1, 0), dec(10, 2, 0), float(1, 3, 2), 0}, // the chapter's example
		{"**", dec(0, 1, 0), dec(0, 1, 0), float(1, 0, 1), 0},
		{"**", dec(7, 1, 0), float(0, 0, 4), float(1, 0, 4), 0},
		{"**", dec(0, 1, 0), dec(5, 1, 0), float(0, 0, 1), 0},
		{"**", dec(-2, 1, 0), dec(3, 1, 0), float(-8, 0, 1), 0},
		{"**", dec(-2, 1, 0), dec(2, 1, 0), float(4, 0, 1), 0},
		{"**", dec(2, 1, 0), dec(-1, 1, 0), float(5, -1, 1), 0},
		{"**", dec(-3, 2, 0), dec(-3, 1, 0), float(-37, -3, 2), 0},
		{"**", float(123, 0, 3), dec(1, 1, 0), float(123, 0, 3), 0},
		// Each step is fitted: 7, 5E1, 4E2, 2E5, 1E6.
		{"**", dec(7, 1, 0), dec(7, 1, 0), float(1, 6, 1), 0},
		// From the highest bit on: 4, 2E1, 8E1, 6E3; from the lowest one on it would be 8E3, one after the other 4E3.
		{"**", dec(4, 1, 0), dec(6, 1, 0), float(6, 3, 1), 0},
		// Both are whole, though their types have scales.
		{"**", dec(15, 2, 1), dec(20, 2, 1), float(23, -1, 2), 0},
		{"**", dec(15, 2, 1), bin(4, 3, 1), float(23, -1, 2), 0},
		// a is fitted first: 1.5 is 2, and 0.8125 is 0.81, and 0.66 times that is 0.53, not 0.54.
		{"**", bin(3, 2, 1), dec(2, 1, 0), float(4, 0, 1), 0},
		{"**", bin(13, 4, 4), dec(3, 1, 0), float(53, -2, 2), 0},
		{"**", bin(mostBin, 31, 0), dec(1, 1, 0), float(mostBin, 0, 10), 0},
		{"**", float(1, 75, 1), dec(1, 1, 0), float(1, 75, 1), 0},
		{"**", float(1, 75, 1), dec(-1, 1, 0), float(1, -75, 1), 0},
		{"**", float(1, -75, 1), dec(-1, 1, 0), float(1, 75, 1), 0},
	})
}

func TestPowersTooFar(t *testing.T) {
	checkDone(t, []done{
		{"**", dec(1, 1, 0), dec(1000, 4, 0), float(1, 0, 4), 0},
		{"**", dec(-1, 1, 0), dec(-1000, 4, 0), float(1, 0, 4), 0},
		{"**", dec(1, 1, 0), float(1, 3, 1), float(1, 0, 1), 0},
		{"**", dec(1, 1, 0), dec(1001, 4, 0), float(0, 0, 4), api.CError},
		{"**", dec(1, 1, 0), dec(-1001, 4, 0), float(0, 0, 4), api.CError},
		{"**", dec(1, 1, 0), dec(10001, 5, 1), float(0, 0, 5), api.CError},
		{"**", dec(1, 1, 0), dec(-10005, 5, 1), float(0, 0, 5), api.CError},
		{"**", dec(1, 1, 0), float(1, 15, 1), float(0, 0, 1), api.CError},
		{"**", dec(1, 1, 0), float(-9, 75, 1), float(0, 0, 1), api.CError},
		{"**", dec(2, 1, 0), dec(5, 2, 1), float(0, 0, 2), api.CError},
		{"**", dec(2, 1, 0), bin(-1, 1, 1), float(0, 0, 1), api.CError},
		{"**", dec(0, 1, 0), dec(1, 1, 1), float(0, 0, 1), api.CError},
		// A b that is not whole is told ahead of a 0 that is inverted.
		{"**", dec(0, 1, 0), dec(-5, 1, 1), float(0, 0, 1), api.CError},
		{"**", dec(0, 1, 0), dec(-1001, 4, 0), float(0, 0, 4), api.CError},
	})
}

func TestPowersWithConditions(t *testing.T) {
	checkDone(t, []done{
		{"**", dec(0, 1, 0), dec(-1, 1, 0), float(0, 0, 1), api.CZeroDivide},
		{"**", dec(0, 5, 3), dec(-1000, 4, 0), float(0, 0, 5), api.CZeroDivide},
		{"**", float(0, 0, 3), dec(-2, 1, 0), float(0, 0, 3), api.CZeroDivide},
		{"**", dec(2, 1, 0), dec(1000, 4, 0), float(0, 0, 4), api.COverflow},
		{"**", dec(5, 1, 1), dec(1000, 4, 0), float(0, 0, 4), api.CUnderflow},
		{"**", float(1, 40, 1), dec(2, 1, 0), float(0, 0, 1), api.COverflow},
		{"**", float(1, 30, 1), dec(3, 1, 0), float(0, 0, 1), api.COverflow},
		{"**", float(-1, -40, 1), dec(2, 1, 0), float(0, 0, 1), api.CUnderflow},
		// The condition of an earlier step is told, not what 1 / r would be.
		{"**", float(1, 40, 1), dec(-2, 1, 0), float(0, 0, 1), api.COverflow},
		{"**", float(1, -40, 1), dec(-2, 1, 0), float(0, 0, 1), api.CUnderflow},
		// 1 / r has one of its own.
		{"**", float(9, 75, 1), dec(-1, 1, 0), float(0, 0, 1), api.CUnderflow},
		{"**", float(-3, 75, 1), dec(-1, 1, 0), float(0, 0, 1), api.CUnderflow},
	})
}

// raised is a power by halves of the exponent.
func raised(base api.Value, n int, of api.Type) (api.Value, int) {
	if n == 0 {
		return vfloat(1, 0), 0
	}
	half, cond := raised(base, n/2, of)
	if cond != 0 {
		return half, cond
	}
	whole, cond, _ := digit.Multiply(half, half, of)
	if cond == 0 && n%2 == 1 {
		whole, cond, _ = digit.Multiply(whole, base, of)
	}
	return whole, cond
}

func TestPowersInHalves(t *testing.T) {
	r := rand.New(rand.NewSource(5))
	for range 5000 {
		a, n := someOf(r, someType(r)), r.Intn(2001)-1000
		if r.Intn(2) == 0 {
			n %= 20
		}
		b := dec(n, 4, 0)
		of := tfloat(max(4, digitsOf(a.of)))
		base, _, _ := digit.Fit(a.Value, of)
		want, cond := raised(base, max(n, -n), of)
		if n < 0 && cond == 0 {
			want, cond, _ = digit.Divide(vfloat(1, 0), want, of)
		}
		checkDone(t, []done{{"**", a, b, number{want, of}, cond}})
	}
}

// digitsOf is how many digits a type has as float.
func digitsOf(t api.Type) int {
	if t.Kind == api.TBin {
		return (3*t.P + 9) / 10
	}
	return t.P
}

// The fit of a ahead of all steps tells no condition, for the numbers furthest from and nearest to 0.
func TestBasesHaveRoom(t *testing.T) {
	for _, a := range []number{bin(1, 31, 31), bin(-mostBin, 31, 0), dec(mostDec, 15, 0), dec(1, 1, 31), float(mostDec, 61, 15), float(1, -75, 1), float(-mostDec, -89, 15)} {
		if _, _, cond, e := arith.Do("**", a.Value, vdec(1, 0), a.of, tdec(1, 0)); cond != 0 || e != api.OK {
			t.Errorf("%+v ** 1 tells %d, %d", a, cond, e)
		}
	}
}
