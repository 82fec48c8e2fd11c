package pair_test

import (
	"math/big"
	"math/rand"
	"testing"

	"ironbark/api"
	"ironbark/arith"
	"ironbark/digit"
	"ironbark/pair"
	"ironbark/rule"
)

// step reckons with two values that are there already, by their places.
type step struct {
	op   string
	a, b int
}

// From the parts of two pairs (0 to 3) on, the chapter's steps, each of which gives one value more; `0` asks for 0.
var (
	productSteps  = []step{{"*", 0, 2}, {"*", 1, 3}, {"*", 0, 3}, {"*", 1, 2}, {"-", 4, 5}, {"+", 6, 7}}
	quotientSteps = []step{{"*", 2, 2}, {"*", 3, 3}, {"+", 4, 5}, {"0", 6, 6}, {"*", 0, 2}, {"*", 1, 3}, {"+", 8, 9}, {"/", 10, 6}, {"*", 1, 2}, {"*", 0, 3}, {"-", 12, 13}, {"/", 14, 6}}
	normSteps     = []step{{"*", 0, 0}, {"*", 1, 1}, {"+", 4, 5}}
)

// stepped does steps in a type; it tells what is at two places in the end.
func stepped(x, y api.Pair, of api.Type, steps []step, re, im int) (api.Pair, int) {
	there := []api.Value{x.Re, x.Im, y.Re, y.Im}
	for _, s := range steps {
		v, cond := reckoned(s.op, there[s.a], there[s.b], of)
		if cond != 0 {
			return noughts(of).Pair, cond
		}
		there = append(there, v)
	}
	return both(there[re], there[im]), 0
}

func reckoned(op string, a, b api.Value, of api.Type) (v api.Value, cond int) {
	switch op {
	case "+":
		v, cond, _ = digit.Add(a, b, of)
	case "-":
		v, cond, _ = digit.Subtract(a, b, of)
	case "*":
		v, cond, _ = digit.Multiply(a, b, of)
	case "/":
		v, cond, _ = digit.Divide(a, b, of)
	case "0":
		if sign, _ := digit.Sign(a); sign == 0 {
			cond = api.CZeroDivide
		}
	}
	return v, cond
}

// someType is a type of numbers, often at an end.
func someType(r *rand.Rand) api.Type {
	p, q := 1+r.Intn(31), r.Intn(32)
	if r.Intn(3) > 0 {
		q = r.Intn(4)
	}
	switch r.Intn(3) {
	case 0:
		return tbin(p, q)
	case 1:
		return tdec(1+p%15, q)
	}
	return tfloat(1 + p%15)
}

// somePart is a number of a type, often 0, or at an end.
func somePart(r *rand.Rand, t api.Type) api.Value {
	base, bound := 10, 1
	if t.Kind == api.TBin {
		base = 2
	}
	for range t.P {
		bound *= base
	}
	n := []int{0, bound - 1, 1, r.Intn(bound), r.Intn(bound), r.Intn(bound) % 12, r.Intn(bound) % 12}[r.Intn(7)]
	if r.Intn(2) == 0 {
		n = -n
	}
	if t.Kind != api.TFloat {
		return api.Value{Kind: t.Kind, N: n, Q: t.Q}
	}
	v, _, _ := digit.Fit(vdec(n, 0), t)
	if n != 0 && r.Intn(2) == 0 {
		v.Q += r.Intn(122) - 61
	}
	return v
}

func some(r *rand.Rand) number {
	of := someType(r)
	return number{both(somePart(r, of), somePart(r, of)), of}
}

func typeOf(op string, a, b api.Type) api.Type {
	t, _ := rule.Result(op, a, b)
	return t
}

func floatOf(t api.Type) api.Type {
	float, _ := rule.Float(t)
	return float
}

// Products, quotients and norms are what the steps give, with each condition.
func TestSteps(t *testing.T) {
	r := rand.New(rand.NewSource(2))
	conds := map[int]int{}
	for range 20000 {
		x, y := some(r), some(r)
		of := typeOf("*", x.of, y.of)
		z, cond := stepped(x.Pair, y.Pair, of, productSteps, 8, 9)
		checkDone(t, []done{{"*", x, y, number{z, of}, cond}})
		conds[cond]++
		of = typeOf("/", floatOf(x.of), floatOf(y.of))
		z, cond = stepped(x.Pair, y.Pair, of, quotientSteps, 11, 15)
		checkDone(t, []done{{"/", x, y, number{z, of}, cond}})
		conds[cond]++
		of = typeOf("*", x.of, x.of)
		z, cond = stepped(x.Pair, y.Pair, of, normSteps, 6, 6)
		if v, told, c, e := pair.Norm(x.Pair, x.of); v != z.Re || told != of || c != cond || e != api.OK {
			t.Fatalf("Norm(%+v) = %+v, %+v, %d, %d; want %+v, %+v, %d", x, v, told, c, e, z.Re, of, cond)
		}
	}
	for _, cond := range []int{0, api.CFixedOverflow, api.COverflow, api.CUnderflow, api.CZeroDivide} {
		if conds[cond] < 50 {
			t.Errorf("the condition %d was told %d times", cond, conds[cond])
		}
	}
}

// raised is a power by halves of the exponent.
func raised(base api.Pair, n int, of api.Type) (api.Pair, int) {
	if n == 0 {
		return both(vfloat(1, 0), vfloat(0, 0)), 0
	}
	half, cond := raised(base, n/2, of)
	if cond == 0 {
		half, cond = stepped(half, half, of, productSteps, 8, 9)
	}
	if cond == 0 && n%2 == 1 {
		half, cond = stepped(half, base, of, productSteps, 8, 9)
	}
	return half, cond
}

func TestPowersInHalves(t *testing.T) {
	r := rand.New(rand.NewSource(3))
	for range 5000 {
		x, n := some(r), r.Intn(101)
		if r.Intn(2) == 0 {
			n %= 12
		}
		of := floatOf(x.of)
		base, _, _ := pair.Fit(x.Pair, of)
		want, cond := raised(base, n, of)
		if z, told, c, e := pair.Power(x.Pair, n, x.of); z != want || told != of || c != cond || e != api.OK {
			t.Fatalf("Power(%+v, %d) = %+v, %+v, %d, %d; want %+v, %+v, %d", x, n, z, told, c, e, want, of, cond)
		}
	}
}

// Sums and differences are layer 3's, part by part.
func TestPartByPart(t *testing.T) {
	r := rand.New(rand.NewSource(4))
	for range 10000 {
		x, y := some(r), some(r)
		for _, op := range []string{"+", "-"} {
			re, of, cond, _ := arith.Do(op, x.Re, y.Re, x.of, y.of)
			im, _, condIm, _ := arith.Do(op, x.Im, y.Im, x.of, y.of)
			want := number{both(re, im), of}
			if cond == 0 {
				cond = condIm
			}
			if cond != 0 {
				want = noughts(of)
			}
			checkDone(t, []done{{op, x, y, want, cond}})
		}
	}
}

// What is told is of the type that is told, with a condition, too.
func TestOfTheType(t *testing.T) {
	r := rand.New(rand.NewSource(5))
	for range 5000 {
		x, y := some(r), some(r)
		for _, op := range operators {
			if z, of, _, e := pair.Do(op, x.Pair, y.Pair, x.of, y.of); e != api.OK || !pair.Has(of, z) {
				t.Fatalf("%+v %s %+v = %+v, %+v, %d", x, op, y, z, of, e)
			}
		}
		if z, of, _, e := pair.Power(x.Pair, r.Intn(101), x.of); e != api.OK || !pair.Has(of, z) {
			t.Fatalf("a power of %+v is %+v, %+v, %d", x, z, of, e)
		}
		if v, of, _, e := pair.Norm(x.Pair, x.of); e != api.OK || !digit.Has(of, v) {
			t.Fatalf("the norm of %+v is %+v, %+v, %d", x, v, of, e)
		}
		if z, _, e := pair.Fit(x.Pair, y.of); e != api.OK || !pair.Has(y.of, z) {
			t.Fatalf("%+v fitted to %+v is %+v, %d", x, y.of, z, e)
		}
	}
}

// P4.2: with Im 0, Re is layer 3's.
func TestReal(t *testing.T) {
	r := rand.New(rand.NewSource(6))
	for range 10000 {
		x, y := some(r), some(r)
		x.Im, y.Im = noughts(x.of).Im, noughts(y.of).Im
		for _, op := range []string{"+", "-", "*"} {
			re, of, cond, _ := arith.Do(op, x.Re, y.Re, x.of, y.of)
			want := noughts(of)
			if cond == 0 {
				want.Re = re
			}
			checkDone(t, []done{{op, x, y, want, cond}})
		}
	}
}

// P4.3: x times its conjugate is its norm, where nothing is lost.
func TestNormOfConjugate(t *testing.T) {
	r := rand.New(rand.NewSource(7))
	of := []api.Type{tdec(7, 15), tdec(4, 0), tdec(1, 1), tbin(15, 15), tbin(6, 0), tfloat(15), tfloat(9)}
	for range 5000 {
		x := number{of: of[r.Intn(len(of))]}
		whole := func() api.Value { return vdec(r.Intn(20001)-10000, 0) }
		if x.of.Kind == api.TFloat {
			x.Pair, _, _ = pair.Fit(both(whole(), whole()), x.of)
		} else {
			x.Pair = both(somePart(r, x.of), somePart(r, x.of))
		}
		turned, e := pair.Conjugate(x.Pair)
		norm, to, cond, _ := pair.Norm(x.Pair, x.of)
		if e != api.OK || cond != 0 {
			t.Fatalf("%+v: %d, %d", x, e, cond)
		}
		want := noughts(to)
		want.Re = norm
		checkDone(t, []done{{"*", x, number{turned, x.of}, want, 0}})
		if sum := new(big.Rat).Add(square(x.Re), square(x.Im)); sum.Cmp(fraction(norm)) != 0 {
			t.Fatalf("the norm of %+v is %+v, not %v", x, norm, sum)
		}
	}
}

func square(v api.Value) *big.Rat { return new(big.Rat).Mul(fraction(v), fraction(v)) }

// fraction is a number as it is.
func fraction(v api.Value) *big.Rat {
	power := func(base, n int) *big.Rat {
		return new(big.Rat).SetInt(new(big.Int).Exp(big.NewInt(int64(base)), big.NewInt(int64(n)), nil))
	}
	x := new(big.Rat).SetInt64(int64(v.N))
	switch {
	case v.Kind == api.TBin:
		return x.Quo(x, power(2, v.Q))
	case v.Kind == api.TDec:
		return x.Quo(x, power(10, v.Q))
	case v.Q < 0:
		return x.Quo(x, power(10, -v.Q))
	}
	return x.Mul(x, power(10, v.Q))
}

// Fit is layer 1's for each part, and tells the first condition.
func TestFitsPartByPart(t *testing.T) {
	r := rand.New(rand.NewSource(8))
	for range 10000 {
		x, of := both(somePart(r, someType(r)), somePart(r, someType(r))), someType(r)
		re, cond, _ := digit.Fit(x.Re, of)
		im, condIm, _ := digit.Fit(x.Im, of)
		if cond == 0 {
			cond = condIm
		}
		if z, c, e := pair.Fit(x, of); z != both(re, im) || c != cond || e != api.OK {
			t.Fatalf("Fit(%+v, %+v) = %+v, %d, %d", x, of, z, c, e)
		}
	}
}
