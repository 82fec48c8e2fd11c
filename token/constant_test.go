package token_test

import (
	"math"
	"math/big"
	"math/rand"
	"strings"
	"testing"

	"ironbark/api"
	"ironbark/digit"
	"ironbark/token"
)

func number(kind, p, q, n int) (api.Type, api.Value) {
	return api.Type{Kind: kind, P: p, Q: q}, api.Value{Kind: kind, N: n, Q: q}
}

func float(p, n, q int) (api.Type, api.Value) {
	return api.Type{Kind: api.TFloat, P: p}, api.Value{Kind: api.TFloat, N: n, Q: q}
}

func text(kind int, s string) (api.Type, api.Value) {
	return api.Type{Kind: kind, N: len(s)}, api.Value{Kind: kind, S: s}
}

// checkConstant checks what a token means: where it stands does not matter.
func checkConstant(t *testing.T, brief string) func(of api.Type, v api.Value) {
	return func(of api.Type, v api.Value) {
		t.Helper()
		for _, at := range []int{0, 7, math.MaxInt} {
			x := made(brief)
			x.At = at
			gotType, got, e := token.Constant(x)
			if gotType != of || got != v || e != api.OK || !digit.Has(gotType, got) {
				t.Errorf("Constant(%.50q) = %+v, %+v, %d; want %+v, %+v", brief, gotType, got, e, of, v)
			}
		}
	}
}

// checkRefused checks that a token means nothing.
func checkRefused(t *testing.T, x api.Token, want api.Errno) {
	t.Helper()
	if of, v, e := token.Constant(x); of != (api.Type{}) || v != (api.Value{}) || e != want {
		t.Errorf("Constant(%.50q of %d at %d) = %+v, %+v, %d; want %d", x.Text, x.Kind, x.At, of, v, e, want)
	}
}

func TestFixedConstants(t *testing.T) {
	checkConstant(t, "D:0")(number(api.TDec, 1, 0, 0))
	checkConstant(t, "D:7")(number(api.TDec, 1, 0, 7))
	checkConstant(t, "D:1.50")(number(api.TDec, 3, 2, 150))
	checkConstant(t, "D:.5")(number(api.TDec, 1, 1, 5))
	checkConstant(t, "D:7.")(number(api.TDec, 1, 0, 7))
	checkConstant(t, "D:007")(number(api.TDec, 3, 0, 7))
	checkConstant(t, "D:00.050")(number(api.TDec, 5, 3, 50))
	checkConstant(t, "D:.000")(number(api.TDec, 3, 3, 0))
	checkConstant(t, "D:120")(number(api.TDec, 3, 0, 120))
	checkConstant(t, "D:010")(number(api.TDec, 3, 0, 10))
	checkConstant(t, "D:"+many("9", 15))(number(api.TDec, 15, 0, 999_999_999_999_999))
	checkConstant(t, "D:."+many("9", 15))(number(api.TDec, 15, 15, 999_999_999_999_999))
	checkConstant(t, "D:"+many("0", 14)+".1")(number(api.TDec, 15, 1, 1))

	checkConstant(t, "D:101.1B")(number(api.TBin, 4, 1, 11))
	checkConstant(t, "D:0B")(number(api.TBin, 1, 0, 0))
	checkConstant(t, "D:1B")(number(api.TBin, 1, 0, 1))
	checkConstant(t, "D:1.B")(number(api.TBin, 1, 0, 1))
	checkConstant(t, "D:.01B")(number(api.TBin, 2, 2, 1))
	checkConstant(t, "D:0010B")(number(api.TBin, 4, 0, 2))
	checkConstant(t, "D:"+many("1", 31)+"B")(number(api.TBin, 31, 0, 1<<31-1))
	checkConstant(t, "D:."+many("1", 31)+"B")(number(api.TBin, 31, 31, 1<<31-1))
	checkConstant(t, "D:"+many("0", 31)+"B")(number(api.TBin, 31, 0, 0))
}

func TestFloatConstants(t *testing.T) {
	checkConstant(t, "D:1.50E-2")(float(3, 15, -3))
	checkConstant(t, "D:1E0")(float(1, 1, 0))
	checkConstant(t, "D:1E5")(float(1, 1, 5))
	checkConstant(t, "D:1E+05")(float(1, 1, 5))
	checkConstant(t, "D:100E5")(float(3, 1, 7))
	checkConstant(t, "D:1.00E5")(float(3, 1, 5))
	checkConstant(t, "D:1.E3")(float(1, 1, 3))
	checkConstant(t, "D:.5E-9")(float(1, 5, -10))
	checkConstant(t, "D:0.05E03")(float(3, 5, 1))
	checkConstant(t, "D:12.340E1")(float(5, 1234, -1))
	checkConstant(t, "D:"+many("9", 15)+"E0")(float(15, 999_999_999_999_999, 0))
	checkConstant(t, "D:"+many("0", 14)+".1E-1")(float(15, 1, -2))
	// Of 0 each exponent is 0.
	checkConstant(t, "D:0E5")(float(1, 0, 0))
	checkConstant(t, "D:0.000E-99")(float(4, 0, 0))
	checkConstant(t, "D:.0E99")(float(1, 0, 0))
	// The exponent counts that of the first digit.
	checkConstant(t, "D:1E75")(float(1, 1, 75))
	checkConstant(t, "D:9.99E75")(float(3, 999, 73))
	checkConstant(t, "D:0.001E78")(float(4, 1, 75))
	checkConstant(t, "D:"+many("9", 15)+"E61")(float(15, 999_999_999_999_999, 61))
	checkConstant(t, "D:1E-75")(float(1, 1, -75))
	checkConstant(t, "D:100E-77")(float(3, 1, -75))
	checkConstant(t, "D:12E-76")(float(2, 12, -76))
	checkConstant(t, "D:"+many("9", 15)+"E-89")(float(15, 999_999_999_999_999, -89))
}

func TestConstantsOutOfRange(t *testing.T) {
	for _, number := range []string{
		many("9", 16), many("1", 15) + ".1", "." + many("1", 16), many("0", 16), "0." + many("0", 15), many("0", 15) + "1", many("7", 300),
		many("1", 32) + "B", many("0", 32) + "B", many("1", 31) + ".1B", "." + many("0", 32) + "B", many("1", 300) + "B",
		many("1", 16) + "E0", many("0", 16) + "E0", "1." + many("0", 15) + "E1", many("9", 300) + "E-99",
		"1E76", "1E99", "1E+76", "10E75", "0.1E77", "1.5E76", "99.9E75", many("1", 15) + "E62",
		"1E-76", "1E-99", "0.1E-75", ".99E-75", "0.001E-73", "99E-77", many("1", 15) + "E-90",
	} {
		checkRefused(t, made("D:"+number), api.ErrRange)
		checkScan(t, number, "D:"+number)
	}
}

func TestConstantsInQuotes(t *testing.T) {
	checkConstant(t, "C:")(text(api.TChar, ""))
	checkConstant(t, "C:a'b")(text(api.TChar, "a'b"))
	checkConstant(t, "C: ~")(text(api.TChar, " ~"))
	checkConstant(t, "C:"+many("'", 250))(text(api.TChar, many("'", 250)))
	checkConstant(t, "B:")(text(api.TBit, ""))
	checkConstant(t, "B:1010")(text(api.TBit, "1010"))
	checkConstant(t, "B:"+many("01", 125))(text(api.TBit, many("01", 125)))
}

func TestNoConstants(t *testing.T) {
	for _, brief := range []string{"N:A", "N:E5", "N:IF", "O:+", "O:.", "O:**"} {
		checkRefused(t, made(brief), api.ErrKind)
	}
	for _, x := range wrongTokens() {
		checkRefused(t, x, api.ErrInvalid)
	}
	// What is not valid is asked first, then the kind, then what is out of range.
	checkRefused(t, api.Token{Kind: api.KNum, Text: many("1", 16), At: -1}, api.ErrInvalid)
	checkRefused(t, api.Token{Kind: api.KName, Text: "A", At: -1}, api.ErrInvalid)
}

// wrongTokens are none that Scan can tell.
func wrongTokens() []api.Token {
	var l []api.Token
	for kind, texts := range map[int][]string{
		api.KName:   {"", "a", "aB", "1", "1A", "_A", "A ", " A", "A B", "A/**/", "A.", "Ä", "'A'", "=", many("A", 32)},
		api.KNum:    {"", ".", "+1", "-1", " 1", "1 ", "1e5", "1b", "1E", "1E+", "1E123", "1E5B", "2B", "1B1", "1.2.3", "1..", "1,5", "A", "1/**/", "1\n", "0x1", "1_000", "'1'", many("1", 20001)},
		api.KChar:   {"\n", "a\tb", "\x00", "\x1f", "\x7f", "a\x80", "é", many("x", 251), many("x", 100000)},
		api.KBits:   {"2", "01 ", " 1", "F", "0'B '1", "1'B/*", "'", "1\n", "\x80", many("0", 251), "F'B4 '1"},
		api.KPunct:  {"", " ", "==", "!", "_", "/*", "/**/", "+ ", " +", "<>", "***", "()", "A", "1", "'", ".5", "\n", "\x80", ",;", "):", "^&"},
		0:           {"", "A", "1", "=", " "},
		6:           {"", "A", "1", "=", "a"},
		-1:          {"", "A"},
		math.MaxInt: {"A"},
		math.MinInt: {"A"},
	} {
		for _, s := range texts {
			l = append(l, api.Token{Kind: kind, Text: s})
		}
	}
	for _, brief := range []string{"N:A", "D:1", "C:a", "B:1", "O:+"} {
		for _, at := range []int{-1, -20001, math.MinInt} {
			x := made(brief)
			x.At = at
			l = append(l, x)
		}
	}
	return l
}

func TestValid(t *testing.T) {
	for _, x := range wrongTokens() {
		if token.Valid(x) {
			t.Errorf("Valid(%.50q of %d at %d)", x.Text, x.Kind, x.At)
		}
	}
	for _, x := range rightTokens() {
		for _, at := range []int{0, 1, 20000, 20001, math.MaxInt} {
			if x.At = at; !token.Valid(x) {
				t.Errorf("Valid(%.50q of %d at %d) is false", x.Text, x.Kind, x.At)
			}
		}
	}
}

// rightTokens are of each kind, with all operators, and as short and as long as they may be.
func rightTokens() []api.Token {
	l := row("N:A", "N:B", "N:E5", "N:B4", "N:$", "N:#_1", "N:@", "N:"+many("Z", 31),
		"D:1", "D:0", "D:12", "D:1.", "D:.5", "D:1.5", "D:1E5", "D:1.E+05", "D:.5E-5", "D:1B", "D:1.B", "D:.1B", "D:1.1B", "D:"+many("9", 300), "D:"+many("9", 20000), "D:00",
		"C:", "C:a", "C:'", "C:''", "C:'a", "C:a'", "C:/*", "C:*/", "C: ", "C:,", "C:(", "C:.", "C:;", "C:01", "C:B", "C:"+many("'", 250),
		"B:", "B:0", "B:1", "B:0011", "B:"+many("1", 250))
	for _, op := range strings.Fields("** || ^= ^< ^> <= >= -> + - * / = < > & | ^ ( ) , ; : . %") {
		l = append(l, made("O:"+op))
	}
	return l
}

// someNumber is a number constant, with what it counts.
func someNumber(r *rand.Rand) (written string, exact *big.Rat) {
	base, digits := 10, "0123456789"
	ending := []string{"", "B", "E"}[r.Intn(3)]
	if ending == "B" {
		base, digits = 2, "01"
	}
	n := 1 + r.Intn(20+20*r.Intn(2))
	whole := ""
	for range n {
		whole += string(digits[r.Intn(len(digits))])
	}
	if r.Intn(2) == 0 {
		whole = many("0", r.Intn(n)) + whole
		whole = whole[:n]
	}
	count, _ := new(big.Int).SetString(whole, base)
	exact = new(big.Rat).SetInt(count)
	written = whole
	if r.Intn(3) > 0 {
		at := r.Intn(n + 1)
		written = whole[:at] + "." + whole[at:]
		exact.Quo(exact, new(big.Rat).SetInt(new(big.Int).Exp(big.NewInt(int64(base)), big.NewInt(int64(n-at)), nil)))
	}
	if ending == "E" {
		exponent, sign := r.Intn(100), []string{"", "+", "-"}[r.Intn(3)]
		tens := new(big.Rat).SetInt(new(big.Int).Exp(big.NewInt(10), big.NewInt(int64(exponent)), nil))
		if sign == "-" {
			tens.Inv(tens)
		}
		exact.Mul(exact, tens)
		ending += sign
		if exponent < 10 && r.Intn(2) == 0 {
			ending += "0"
		}
		ending += big.NewInt(int64(exponent)).String()
	}
	return written + ending, exact
}

// fraction is a number as it is.
func fraction(v api.Value) *big.Rat {
	base, power := 10, v.Q
	switch v.Kind {
	case api.TBin:
		base, power = 2, -v.Q
	case api.TDec:
		power = -v.Q
	}
	x := new(big.Rat).SetInt(new(big.Int).Exp(big.NewInt(int64(base)), big.NewInt(int64(max(power, -power))), nil))
	if power < 0 {
		x.Inv(x)
	}
	return x.Mul(x, new(big.Rat).SetInt64(int64(v.N)))
}

// P9.5: a number's value is what its digits say.
func TestValues(t *testing.T) {
	r := rand.New(rand.NewSource(1))
	tooFar, _ := new(big.Rat).SetString("1E76")
	tooNear, _ := new(big.Rat).SetString("1E-75")
	seen := map[api.Errno]int{}
	for range 30000 {
		written, exact := someNumber(r)
		kind, most := api.TDec, api.MaxDec
		mantissa, _, isFloat := strings.Cut(written, "E")
		switch {
		case isFloat:
			kind = api.TFloat
		case strings.HasSuffix(written, "B"):
			kind, most = api.TBin, api.MaxBin
			mantissa = mantissa[:len(mantissa)-1]
		}
		digits := strings.Replace(mantissa, ".", "", 1)
		_, behind, _ := strings.Cut(mantissa, ".")
		want := api.OK
		if len(digits) > most || isFloat && exact.Sign() != 0 && (exact.Cmp(tooFar) >= 0 || exact.Cmp(tooNear) < 0) {
			want = api.ErrRange
		}
		seen[want]++
		x := made("D:" + written)
		if want != api.OK {
			checkRefused(t, x, want)
			continue
		}
		wantType := api.Type{Kind: kind, P: len(digits), Q: len(behind)}
		if isFloat {
			wantType.Q = 0
		}
		of, v, e := token.Constant(x)
		if of != wantType || e != api.OK || !digit.Has(of, v) || fraction(v).Cmp(exact) != 0 {
			t.Fatalf("Constant(%q) = %+v, %+v, %d; want %+v, %v", written, of, v, e, wantType, exact)
		}
		if !isFloat { // the whole number of its digits
			n, _ := new(big.Int).SetString(digits, map[int]int{api.TDec: 10, api.TBin: 2}[kind])
			if n.Cmp(big.NewInt(int64(v.N))) != 0 {
				t.Fatalf("Constant(%q) = %+v", written, v)
			}
		}
	}
	if seen[api.OK] < 10000 || seen[api.ErrRange] < 5000 {
		t.Errorf("%v", seen)
	}
}
