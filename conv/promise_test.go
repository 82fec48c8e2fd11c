package conv_test

import (
	"math/big"
	"math/rand"
	"strings"
	"testing"

	"ironbark/api"
	layer5 "ironbark/bits"
	"ironbark/conv"
	"ironbark/digit"
	"ironbark/rule"
)

// someType is a type of one of the kinds that are converted.
func someType(r *rand.Rand) api.Type {
	switch kind := 1 + r.Intn(5); kind {
	case api.TBin:
		return tbin(1+r.Intn(api.MaxBin), someScale(r))
	case api.TDec:
		return tdec(1+r.Intn(api.MaxDec), someScale(r))
	case api.TFloat:
		return tfloat(1 + r.Intn(api.MaxDec))
	default:
		return api.Type{Kind: kind, N: someLength(r), Vary: r.Intn(2) == 0}
	}
}

func someScale(r *rand.Rand) int { return []int{0, 0, r.Intn(8), r.Intn(api.MaxScale + 1)}[r.Intn(4)] }

func someLength(r *rand.Rand) int { return []int{r.Intn(6), r.Intn(40), r.Intn(251)}[r.Intn(3)] }

// someBelow is a number below a bound on either side of 0, often near the bound or 0.
func someBelow(r *rand.Rand, bound int) int {
	n := []int{0, bound - 1, r.Intn(bound), r.Intn(min(bound, 100))}[r.Intn(4)]
	if r.Intn(2) == 0 {
		return -n
	}
	return n
}

func someItems(r *rand.Rand, items string, length int) string {
	s := make([]byte, length)
	for at := range s {
		s[at] = items[r.Intn(len(items))]
	}
	return string(s)
}

func tens(n int) int {
	if n == 0 {
		return 1
	}
	return 10 * tens(n-1)
}

// someValue is a value of a type.
func someValue(r *rand.Rand, of api.Type) api.Value {
	switch of.Kind {
	case api.TBin:
		return vbin(someBelow(r, 1<<of.P), of.Q)
	case api.TDec:
		return vdec(someBelow(r, tens(of.P)), of.Q)
	case api.TFloat:
		return someFloat(r, of.P)
	}
	length := of.N
	if of.Vary {
		length = r.Intn(of.N + 1)
	}
	if of.Kind == api.TBit {
		return digits(someItems(r, "01", length))
	}
	return text(someCharacters(r, length))
}

func someFloat(r *rand.Rand, p int) api.Value {
	n := someBelow(r, tens(p))
	if n == 0 {
		return vfloat(0, 0)
	}
	q := []int{0, r.Intn(10) - 5, r.Intn(120) - 60}[r.Intn(3)]
	for n%10 == 0 {
		n /= 10
	}
	return vfloat(n, q)
}

// someCharacters are often a constant, or bits, or nearly so.
func someCharacters(r *rand.Rand, length int) string {
	of := []string{"01", "0123456789", "0123456789.E+-B ", " ", "a1 ~"}[r.Intn(5)]
	if length > 4 && r.Intn(2) == 0 {
		made := someSign(r) + someDigits(r, "0123456789", min(length-3, 12))
		return many(" ", length-len(made)) + made
	}
	return someItems(r, of, length)
}

// someTyped is a value with its type.
func someTyped(r *rand.Rand) typed {
	of := someType(r)
	return typed{someValue(r, of), of}
}

func isNumbers(of api.Type) bool { return of.Kind <= api.TFloat }

// P6.3, P6.5: what is told is of the type asked for, whatever the condition; a source as it was tells what it told.
func TestTypeAndAgain(t *testing.T) {
	r := rand.New(rand.NewSource(3))
	seen := map[int]int{}
	for range 30000 {
		v, to := someTyped(r), someType(r)
		w, raise, e := conv.Convert(v.Value, v.of, to)
		if !digit.Has(to, w) || e != api.OK {
			t.Fatalf("Convert(%+v, %+v) = %+v, %+v, %d", v, to, w, raise, e)
		}
		seen[raise.Cond]++
		if raise.Cond != api.CConversion {
			if raise != (api.Raise{Cond: raise.Cond}) {
				t.Fatalf("Convert(%+v, %+v) raises %+v", v, to, raise)
			}
			continue
		}
		zero, _ := digit.Zero(to)
		if w != zero || raise != (api.Raise{Cond: api.CConversion, Source: v.S, At: raise.At}) || raise.At < 0 || raise.At > len(v.S) {
			t.Fatalf("Convert(%+v, %+v) = %+v, %+v", v, to, w, raise)
		}
		if again, told, e := conv.Again(raise, raise.Source, to); again != w || told != raise || e != api.OK {
			t.Fatalf("Again(%+v, %+v) = %+v, %+v, %d", raise, to, again, told, e)
		}
	}
	for _, cond := range []int{0, api.CConversion, api.CSize, api.CStringSize} {
		if seen[cond] < 500 {
			t.Errorf("%v", seen)
		}
	}
}

// P6.2: a field is as long as Length tells, and a constant of the number.
func TestFieldsAreConstants(t *testing.T) {
	r := rand.New(rand.NewSource(4))
	for range 20000 {
		v := someTyped(r)
		if !isNumbers(v.of) {
			continue
		}
		want := v.Value
		if v.of.Kind == api.TBin {
			decimal, _ := rule.Decimal(v.of)
			want, _, _ = digit.Fit(v.Value, decimal)
		}
		field, e := conv.Field(v.Value, v.of)
		length, _ := conv.Length(v.of, tchar(0))
		if len(field) != length || e != api.OK {
			t.Fatalf("Field(%+v) = %q, %d", v, field, e)
		}
		if got, _, at, e := conv.Constant(field); got != want || at != -1 || e != api.OK {
			t.Fatalf("Field(%+v) = %q, which is %+v, %d, %d", v, field, got, at, e)
		}
	}
}

// P6.4: bits to characters and back.
func TestBitsAreStraight(t *testing.T) {
	r := rand.New(rand.NewSource(5))
	for range 3000 {
		s := bits(someItems(r, "01", someLength(r)))
		between := tchar(len(s.S))
		w, raise, e := conv.Convert(s.Value, s.of, between)
		if w != text(s.S) || raise != (api.Raise{}) || e != api.OK {
			t.Fatalf("Convert(%+v, %+v) = %+v, %+v, %d", s, between, w, raise, e)
		}
		if back, raise, e := conv.Convert(w, between, s.of); back != s.Value || raise != (api.Raise{}) || e != api.OK {
			t.Fatalf("Convert(%+v, %+v) = %+v, %+v, %d", w, s.of, back, raise, e)
		}
	}
}

// P6.4: a whole number to bits of its L, and back.
func TestWholeNumbersAreStraight(t *testing.T) {
	r := rand.New(rand.NewSource(6))
	done := 0
	for range 30000 {
		v := someTyped(r)
		if !isNumbers(v.of) || v.N < 0 || !fraction(v.Value).IsInt() || fraction(v.Value).Cmp(power(2, 31)) >= 0 {
			continue
		}
		length, _ := conv.Length(v.of, tbit(0))
		w, raise, e := conv.Convert(v.Value, v.of, tbit(length))
		if raise == (api.Raise{Cond: api.CSize}) && v.of.Kind == api.TFloat {
			continue // more than its L
		}
		if len(w.S) != length || raise != (api.Raise{}) || e != api.OK {
			t.Fatalf("Convert(%+v) to bits = %+v, %+v, %d", v, w, raise, e)
		}
		if back, raise, e := conv.Convert(w, tbit(length), v.of); back != v.Value || raise != (api.Raise{}) || e != api.OK {
			t.Fatalf("%+v by way of %+v is %+v, %+v, %d", v, w, back, raise, e)
		}
		done++
	}
	if done < 3000 {
		t.Errorf("%d numbers", done)
	}
}

// longBits is the bits of a whole number's low ones, as many as are asked for, and whether there are no others.
func longBits(x *big.Int, length int) (string, bool) {
	all := x.Text(2)
	if lack := length - len(all); lack > 0 {
		all = many("0", lack) + all
	}
	cut := len(all) - length
	return all[cut:], strings.Trim(all[:cut], "0") == ""
}

// Numbers to bits by long numbers; then layer 5 fits what there is, with or without a condition.
func TestNumbersToBitsByLongNumbers(t *testing.T) {
	r := rand.New(rand.NewSource(7))
	for range 30000 {
		v := someTyped(r)
		to := api.Type{Kind: api.TBit, N: someLength(r), Vary: r.Intn(2) == 0}
		if !isNumbers(v.of) {
			continue
		}
		x := fraction(v.Value)
		length, _ := conv.Length(v.of, to)
		made, all := longBits(new(big.Int).Abs(new(big.Int).Quo(x.Num(), x.Denom())), length)
		want, cond, _ := layer5.Fit(digits(made), to)
		if !all {
			cond = api.CSize
		}
		checkConverted(t, []converted{{v, to, want, cond}})
	}
}

// Bits to numbers by long numbers; then layer 1 fits what there is.
func TestBitsToNumbersByLongNumbers(t *testing.T) {
	r := rand.New(rand.NewSource(8))
	for range 30000 {
		s, to := bits(someItems(r, "0001", someLength(r))), someType(r)
		if !isNumbers(to) {
			continue
		}
		x, _ := new(big.Int).SetString("0"+s.S, 2)
		low := new(big.Int).And(x, big.NewInt(mostBin))
		want, cond, _ := digit.Fit(vbin(int(low.Int64()), 0), to)
		if x.Cmp(low) != 0 {
			cond = api.CSize
		}
		checkConverted(t, []converted{{s, to, want, cond}})
	}
}

// Numbers to characters are their fields, characters to numbers their constants, both fitted.
func TestConvertedByFieldsAndConstants(t *testing.T) {
	r := rand.New(rand.NewSource(9))
	for range 30000 {
		v, to := someTyped(r), someType(r)
		switch {
		case isNumbers(v.of) && to.Kind == api.TChar:
			field, _ := conv.Field(v.Value, v.of)
			want, cond, _ := layer5.Fit(text(field), to)
			checkConverted(t, []converted{{v, to, want, cond}})
		case isNumbers(v.of) && isNumbers(to):
			want, cond, _ := digit.Fit(v.Value, to)
			checkConverted(t, []converted{{v, to, want, cond}})
		case v.of.Kind == api.TChar && isNumbers(to):
			c, _, at, _ := conv.Constant(v.S)
			if at >= 0 {
				zero, _ := digit.Zero(to)
				checkWrong(t, []wrong{{v, to, zero, at}})
				continue
			}
			want, cond, _ := digit.Fit(c, to)
			checkConverted(t, []converted{{v, to, want, cond}})
		}
	}
}
