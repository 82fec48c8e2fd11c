package digit_test

import (
	"math/big"
	"math/rand"
	"strings"
	"testing"

	"ironbark/api"
	"ironbark/digit"
)

func TestText(t *testing.T) {
	for _, x := range []struct {
		v api.Value
		s string
	}{
		{bin(3, 1), "1.5"}, {bin(-3, 2), "-0.75"}, {bin(2, 2), "0.50"}, {bin(0, 3), "0.000"}, {bin(-7, 0), "-7"}, {bin(two31-1, 0), "2147483647"},
		{bin(1, 31), "0.0000000004656612873077392578125"}, {bin(two31-1, 31), "0.9999999995343387126922607421875"},
		{dec(0, 0), "0"}, {dec(0, 2), "0.00"}, {dec(-5, 1), "-0.5"}, {dec(1250, 2), "12.50"}, {dec(100, 0), "100"}, {dec(-100, 2), "-1.00"},
		{dec(1, 31), "0.0000000000000000000000000000001"}, {dec(1-ten15, 15), "-0.999999999999999"}, {dec(ten15-1, 14), "9.99999999999999"},
		{float(0, 0), "0E0"}, {float(1, 0), "1E0"}, {float(-5, -1), "-5E-1"}, {float(125, 1), "1.25E3"}, {float(-125, -4), "-1.25E-2"},
		{float(1, 75), "1E75"}, {float(1-ten15, -89), "-9.99999999999999E-75"}, {float(1, -75), "1E-75"}, {float(101, 0), "1.01E2"},
	} {
		if s, e := digit.Text(x.v); s != x.s || e != api.OK {
			t.Errorf("Text(%+v) = %q, %d; want %q", x.v, s, e, x.s)
		}
	}
}

// The text of a fixed number is that number, with Q digits behind its point.
func TestTextIsExact(t *testing.T) {
	r := rand.New(rand.NewSource(9))
	for range 5000 {
		v := someNumber(r)
		s, e := digit.Text(v)
		x, ok := new(big.Rat).SetString(s)
		if e != api.OK || !ok || x.Cmp(ratio(v)) != 0 {
			t.Fatalf("Text(%+v) = %q, %d", v, s, e)
		}
		if _, fraction, _ := strings.Cut(s, "."); v.Kind != api.TFloat && len(fraction) != v.Q {
			t.Fatalf("Text(%+v) = %q", v, s)
		}
	}
}

func TestRead(t *testing.T) {
	zeros := func(n int) string { return strings.Repeat("0", n) }
	for _, x := range []struct {
		s string
		v api.Value
	}{
		{"0", dec(0, 0)}, {"-0", dec(0, 0)}, {"+0.00", dec(0, 2)}, {"-12.50", dec(-1250, 2)}, {"+7", dec(7, 0)}, {"007", dec(7, 0)},
		{"5.", dec(5, 0)}, {".5", dec(5, 1)}, {"-.50", dec(-50, 2)}, {"0.001", dec(1, 3)}, {"123456789012345", dec(123456789012345, 0)},
		{"000123456789012345", dec(123456789012345, 0)}, {"12345678901234.5", dec(123456789012345, 1)},
		// zeros ahead are not counted across the point
		{"0." + zeros(16) + "123456789012345", dec(123456789012345, 31)}, {"." + zeros(31), dec(0, 31)}, {zeros(80), dec(0, 0)},
		{"-" + zeros(78) + "1", dec(-1, 0)}, {zeros(48) + "." + zeros(31), dec(0, 31)},
		// floats
		{"0E5", float(0, 0)}, {"-0E99", float(0, 0)}, {"0." + zeros(40) + "E-99", float(0, 0)}, {"1E0", float(1, 0)}, {"12.50E-2", float(125, -3)},
		{"1.E5", float(1, 5)}, {".5E1", float(5, 0)}, {"100E2", float(1, 4)}, {"1E+5", float(1, 5)}, {"+1E-05", float(1, -5)}, {"1E75", float(1, 75)}, {"1E-75", float(1, -75)},
		{"0.1E76", float(1, 75)}, {"0.00001E79", float(1, 74)}, {"10E-76", float(1, -75)}, {"1234567890123450E0", float(123456789012345, 1)},
		{"00.00123456789012345000E0", float(123456789012345, -17)}, {"." + zeros(40) + "1E0", float(1, -41)}, {"1" + zeros(70) + "E5", float(1, 75)},
		{"-9.99999999999999E75", float(1-ten15, 61)}, {"1." + zeros(75) + "E-1", float(1, -1)},
	} {
		v, e := digit.Read(x.s)
		if v != x.v || e != api.OK {
			t.Errorf("Read(%q) = %+v, %d; want %+v", x.s, v, e, x.v)
		}
		if !digit.Right(v) {
			t.Errorf("Read(%q) = %+v is not right", x.s, v)
		}
	}
}

func TestReadErrors(t *testing.T) {
	zeros := func(n int) string { return strings.Repeat("0", n) }
	for _, x := range []struct {
		s string
		e api.Errno
	}{
		{zeros(81), api.ErrLong}, {strings.Repeat("x", 81), api.ErrLong}, {strings.Repeat("9", 81), api.ErrLong}, {strings.Repeat("x", 80), api.ErrSyntax},
		{"", api.ErrSyntax}, {"+", api.ErrSyntax}, {"-", api.ErrSyntax}, {".", api.ErrSyntax}, {"-.", api.ErrSyntax}, {"E", api.ErrSyntax}, {"E5", api.ErrSyntax}, {".E5", api.ErrSyntax},
		{"1E", api.ErrSyntax}, {"1E+", api.ErrSyntax}, {"1E005", api.ErrSyntax}, {"1E+005", api.ErrSyntax}, {"1E5.", api.ErrSyntax}, {"1E5E5", api.ErrSyntax}, {"1E--5", api.ErrSyntax}, {"1e5", api.ErrSyntax}, {"-1e", api.ErrSyntax},
		{"--1", api.ErrSyntax}, {"+-1", api.ErrSyntax}, {"- 1", api.ErrSyntax}, {" 1", api.ErrSyntax}, {"1 ", api.ErrSyntax}, {"1.2.3", api.ErrSyntax}, {"1-", api.ErrSyntax}, {"1,5", api.ErrSyntax},
		{"1\x00", api.ErrSyntax}, {"\xff", api.ErrSyntax}, {"\u0661", api.ErrSyntax}, {"1B", api.ErrSyntax}, {"NaN", api.ErrSyntax}, {"1_0", api.ErrSyntax},
		{"1234567890123456", api.ErrRange}, {"1000000000000000", api.ErrRange}, {"123456789012345.0", api.ErrRange}, {"0." + zeros(32), api.ErrRange}, {"." + zeros(31) + "1", api.ErrRange},
		{"1E76", api.ErrRange}, {"1E-76", api.ErrRange}, {"10E75", api.ErrRange}, {"1E99", api.ErrRange}, {"-0.1E-75", api.ErrRange}, {"1" + zeros(70) + "E6", api.ErrRange},
		{"1234567890123456E0", api.ErrRange}, {"1.000000000000001E0", api.ErrRange}, {"01234567890123456.0E0", api.ErrRange},
		// a syntax error comes ahead of a range error
		{"1234567890123456x", api.ErrSyntax}, {"1234567890123456E", api.ErrSyntax}, {"1.2345678901234567E100", api.ErrSyntax},
	} {
		if v, e := digit.Read(x.s); v != (api.Value{}) || e != x.e {
			t.Errorf("Read(%q) = %+v, %d; want %d", x.s, v, e, x.e)
		}
	}
}

// P1.4: what Text writes of decimal fixed numbers and of floats is read again.
func TestBack(t *testing.T) {
	r := rand.New(rand.NewSource(10))
	l := rightValues()
	for range 10000 {
		l = append(l, someNumber(r))
	}
	for _, v := range l {
		if v.Kind != api.TDec && v.Kind != api.TFloat {
			continue
		}
		s, e := digit.Text(v)
		if e != api.OK {
			t.Fatalf("Text(%+v): %d", v, e)
		}
		if w, e := digit.Read(s); w != v || e != api.OK {
			t.Fatalf("%+v is %q is %+v, %d", v, s, w, e)
		}
	}
}

// Any bytes are read or refused, never both.
func TestReadAnything(t *testing.T) {
	r := rand.New(rand.NewSource(11))
	for range 50000 {
		b := make([]byte, r.Intn(12))
		for i := range b {
			b[i] = "0123456789+-.EEe x\xff"[r.Intn(19)]
		}
		v, e := digit.Read(string(b))
		if e == api.OK && (!digit.Right(v) || v.Kind != api.TDec && v.Kind != api.TFloat) || e != api.OK && v != (api.Value{}) {
			t.Fatalf("Read(%q) = %+v, %d", b, v, e)
		}
		if e != api.OK {
			continue
		}
		if x, ok := new(big.Rat).SetString(string(b)); ok && x.Cmp(ratio(v)) != 0 {
			t.Fatalf("Read(%q) = %+v", b, v)
		}
	}
}
