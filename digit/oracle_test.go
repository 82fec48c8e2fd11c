package digit_test

import (
	"math/big"
	"math/rand"

	"ironbark/api"
	"ironbark/digit"
)

// The oracle does what the chapter says by fractions of math/big, digit by digit.

func ten(n int) *big.Int { return new(big.Int).Exp(big.NewInt(10), big.NewInt(int64(n)), nil) }

func two(n int) *big.Int { return new(big.Int).Lsh(big.NewInt(1), uint(n)) }

func ratio(v api.Value) *big.Rat {
	n := big.NewInt(int64(v.N))
	switch {
	case v.Kind == api.TBin:
		return new(big.Rat).SetFrac(n, two(v.Q))
	case v.Kind == api.TDec:
		return new(big.Rat).SetFrac(n, ten(v.Q))
	case v.Q < 0:
		return new(big.Rat).SetFrac(n, ten(-v.Q))
	}
	return new(big.Rat).SetInt(n.Mul(n, ten(v.Q)))
}

func rounded(x *big.Rat) *big.Int {
	up := new(big.Rat).Add(x, big.NewRat(int64(x.Sign()), 2))
	return new(big.Int).Quo(up.Num(), up.Denom())
}

func fitsFixed(x *big.Rat, t api.Type, round bool, large int) (api.Value, int) {
	scale, bound := ten(t.Q), ten(t.P)
	if t.Kind == api.TBin {
		scale, bound = two(t.Q), two(t.P)
	}
	y := new(big.Rat).Mul(x, new(big.Rat).SetInt(scale))
	n := new(big.Int).Quo(y.Num(), y.Denom())
	if round {
		n = rounded(y)
	}
	cond := 0
	if n.CmpAbs(bound) >= 0 {
		cond = large
		n.Rem(n, bound)
	}
	return api.Value{Kind: t.Kind, N: int(n.Int64()), Q: t.Q}, cond
}

func fitsFloat(x *big.Rat, t api.Type) (api.Value, int) {
	none := api.Value{Kind: api.TFloat}
	if x.Sign() == 0 {
		return none, 0
	}
	// y is x with its point behind the first P digits.
	y, q := new(big.Rat).Set(x), 0
	low, high := new(big.Rat).SetInt(ten(t.P-1)), new(big.Rat).SetInt(ten(t.P))
	for new(big.Rat).Abs(y).Cmp(high) >= 0 {
		y.Mul(y, big.NewRat(1, 10))
		q++
	}
	for new(big.Rat).Abs(y).Cmp(low) < 0 {
		y.Mul(y, big.NewRat(10, 1))
		q--
	}
	n := int(rounded(y).Int64())
	for n%10 == 0 {
		n /= 10
		q++
	}
	exponent := q - 1
	for rest := n; rest != 0; rest /= 10 {
		exponent++
	}
	switch {
	case exponent > 75:
		return none, api.COverflow
	case exponent < -75:
		return none, api.CUnderflow
	}
	return api.Value{Kind: api.TFloat, N: n, Q: q}, 0
}

func fits(x *big.Rat, t api.Type, round bool, large int) (api.Value, int) {
	if t.Kind == api.TFloat {
		return fitsFloat(x, t)
	}
	return fitsFixed(x, t, round, large)
}

// someInt is below a bound, of any size, often at an end.
func someInt(r *rand.Rand, bound int) int {
	n := r.Intn(bound)
	switch r.Intn(6) {
	case 0:
		n = bound - 1 - r.Intn(2)
	case 1:
		n = r.Intn(3)
	case 2, 3:
		for range r.Intn(15) {
			n /= 10
		}
	}
	if r.Intn(2) == 0 {
		return -n
	}
	return n
}

func someNumber(r *rand.Rand) api.Value {
	switch r.Intn(3) {
	case 0:
		return bin(someInt(r, two31), r.Intn(32))
	case 1:
		return dec(someInt(r, ten15), r.Intn(32))
	}
	for {
		v := float(someInt(r, ten15), r.Intn(180)-95)
		for v.N != 0 && v.N%10 == 0 {
			v.N /= 10
		}
		if v.N == 0 {
			v.Q = 0
		}
		if digit.Right(v) {
			return v
		}
	}
}

func someType(r *rand.Rand) api.Type {
	switch r.Intn(3) {
	case 0:
		return binType(1+r.Intn(31), r.Intn(32))
	case 1:
		return decType(1+r.Intn(15), r.Intn(32))
	}
	return floatType(1 + r.Intn(15))
}
