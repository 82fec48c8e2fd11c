package digit

import (
	"math/big"
	"math/rand"
	"testing"
)

func bigOf(l limbs) *big.Int {
	out := new(big.Int)
	for i := len(l) - 1; i >= 0; i-- {
		out.Lsh(out, 32)
		out.Or(out, big.NewInt(int64(l[i])))
	}
	return out
}

// someLimbs has many words that are 0 or full: they lead to carries, borrows and wrong guesses.
func someLimbs(r *rand.Rand) limbs {
	l := make(limbs, r.Intn(9))
	for i := range l {
		switch r.Intn(5) {
		case 0:
			l[i] = 0
		case 1:
			l[i] = 1<<32 - 1
		case 2:
			l[i] = 1 << 31
		default:
			l[i] = r.Uint32()
		}
	}
	return trimmed(l)
}

func TestLongNumbersAgainstBig(t *testing.T) {
	r := rand.New(rand.NewSource(1))
	for range 100000 {
		a, b := someLimbs(r), someLimbs(r)
		x, y := bigOf(a), bigOf(b)
		if got := bigOf(sum(a, b)); got.Cmp(new(big.Int).Add(x, y)) != 0 {
			t.Fatalf("%v + %v = %v", x, y, got)
		}
		if got := bigOf(product(a, b)); got.Cmp(new(big.Int).Mul(x, y)) != 0 {
			t.Fatalf("%v * %v = %v", x, y, got)
		}
		if got := compare(a, b); got != x.Cmp(y) {
			t.Fatalf("%v against %v: %d", x, y, got)
		}
		if x.Cmp(y) >= 0 {
			if got := bigOf(difference(a, b)); got.Cmp(new(big.Int).Sub(x, y)) != 0 {
				t.Fatalf("%v - %v = %v", x, y, got)
			}
		}
		if y.Sign() > 0 {
			q, rest := divided(a, b)
			m := new(big.Int)
			d, _ := new(big.Int).DivMod(x, y, m)
			if bigOf(q).Cmp(d) != 0 || bigOf(rest).Cmp(m) != 0 {
				t.Fatalf("%v / %v = %v rest %v", x, y, bigOf(q), bigOf(rest))
			}
		}
		text := a.text()
		if x.Sign() > 0 && text != x.String() || x.Sign() == 0 && text != "" || a.length() != len(text) {
			t.Fatalf("%v is written %q", x, text)
		}
	}
}

// The guess by two words is one too many here, and the divisor has to be given back.
func TestDivisionGivesBack(t *testing.T) {
	a, b := limbs{0, 0, 1 << 31, 1<<31 - 1}, limbs{1, 0, 1 << 31}
	q, rest := divided(a, b)
	x, y := bigOf(a), bigOf(b)
	if want := new(big.Int).Div(x, y); bigOf(q).Cmp(want) != 0 {
		t.Errorf("quotient %v, want %v", bigOf(q), want)
	}
	if want := new(big.Int).Mod(x, y); bigOf(rest).Cmp(want) != 0 {
		t.Errorf("rest %v, want %v", bigOf(rest), want)
	}
}

func TestPowers(t *testing.T) {
	for _, base := range []int{2, 5, 10} {
		for n := range 200 {
			want := new(big.Int).Exp(big.NewInt(int64(base)), big.NewInt(int64(n)), nil)
			if got := bigOf(power(base, n)); got.Cmp(want) != 0 {
				t.Fatalf("%d to the power of %d is %v", base, n, got)
			}
		}
	}
}

func TestDigitsMayBeLeftEarly(t *testing.T) {
	for d := range natural(1234567890123).digits() {
		if d != '3' {
			t.Errorf("lowest digit %c", d)
		}
		break
	}
}

// R4: operations leave their operands as they are.
func TestOperandsStay(t *testing.T) {
	r := rand.New(rand.NewSource(2))
	for range 2000 {
		a, b := someLimbs(r), append(someLimbs(r), 7)
		x, y := bigOf(a), bigOf(b)
		sum(a, b)
		product(a, b)
		_, rest := divided(a, b)
		for i := range rest {
			rest[i]++
		}
		a.length()
		dropZeros(b)
		if bigOf(a).Cmp(x) != 0 || bigOf(b).Cmp(y) != 0 {
			t.Fatalf("%v or %v changed", x, y)
		}
	}
}

func TestGuardedTellsWhatLeft(t *testing.T) {
	if e := guarded(func() {}); e != 0 {
		t.Errorf("nothing left: %d", e)
	}
	if e := guarded(func() { refuse(7) }); e != 7 {
		t.Errorf("refused with 7: %d", e)
	}
	if e := guarded(func() { panic("broken") }); e != 1 {
		t.Errorf("a panic of another kind: %d", e)
	}
}
