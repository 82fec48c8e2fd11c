package bits_test

import (
	"math"
	"strings"
	"testing"

	"ironbark/api"
	"ironbark/bits"
)

func text(s string) api.Value { return api.Value{Kind: api.TChar, S: s} }

func digits(s string) api.Value { return api.Value{Kind: api.TBit, S: s} }

func tchar(n int) api.Type { return api.Type{Kind: api.TChar, N: n} }

func tbit(n int) api.Type { return api.Type{Kind: api.TBit, N: n} }

func vary(t api.Type) api.Type {
	t.Vary = true
	return t
}

// long is a string's items, a few of them over and over, so many in all.
func long(items string, n int) string { return strings.Repeat(items, n/len(items)+1)[:n] }

func TestValid(t *testing.T) {
	for _, v := range []api.Value{
		text(""), text(" "), text("~"), text("a b"), text("01"), text(long("xyz", api.MaxLen)),
		digits(""), digits("0"), digits("1"), digits("0110"), digits(long("01", api.MaxLen)),
	} {
		if !bits.Valid(v) {
			t.Errorf("%+v is not valid", v)
		}
	}
	for _, v := range wrongValues() {
		if bits.Valid(v) {
			t.Errorf("%+v is valid", v)
		}
	}
}

// Each byte, at the beginning, in the middle and at the end.
func TestValidItems(t *testing.T) {
	for b := range 256 {
		item := string([]byte{byte(b)})
		for _, x := range []struct {
			kind int
			of   string
			want bool
		}{{api.TChar, "a", 32 <= b && b <= 126}, {api.TBit, "1", b == '0' || b == '1'}} {
			for _, s := range []string{item, item + x.of, x.of + item, x.of + item + x.of, strings.Repeat(x.of, api.MaxLen-1) + item} {
				if is := bits.Valid(api.Value{Kind: x.kind, S: s}); is != x.want {
					t.Errorf("Valid of kind %d, %q is %v", x.kind, s, is)
				}
			}
		}
	}
}

func TestValidType(t *testing.T) {
	for _, n := range []int{0, 1, 2, 31, 249, 250} {
		for _, of := range []api.Type{tchar(n), vary(tchar(n)), tbit(n), vary(tbit(n))} {
			if !bits.ValidType(of) {
				t.Errorf("%+v is not valid", of)
			}
		}
	}
	for _, of := range wrongTypes() {
		if bits.ValidType(of) {
			t.Errorf("%+v is valid", of)
		}
	}
}

func TestFit(t *testing.T) {
	whole, ones := long("abc", api.MaxLen), long("110", api.MaxLen)
	for _, x := range []struct {
		v    api.Value
		of   api.Type
		want string
		cond int
	}{
		{text("ab"), tchar(4), "ab  ", 0},
		{text("ab"), tchar(2), "ab", 0},
		{text("ab"), tchar(1), "a", api.CStringSize},
		{text("ab"), tchar(0), "", api.CStringSize},
		{text(""), tchar(3), "   ", 0},
		{text(""), tchar(0), "", 0},
		{text("ab"), vary(tchar(4)), "ab", 0},
		{text("ab"), vary(tchar(2)), "ab", 0},
		{text("ab"), vary(tchar(1)), "a", api.CStringSize},
		{text("ab"), vary(tchar(0)), "", api.CStringSize},
		{text(""), vary(tchar(0)), "", 0},
		{text(""), vary(tchar(9)), "", 0},
		// also if fillers alone are cut
		{text("ab  "), tchar(2), "ab", api.CStringSize},
		{text("ab  "), vary(tchar(3)), "ab ", api.CStringSize},
		{text(" "), tchar(0), "", api.CStringSize},
		{digits("1"), tbit(3), "100", 0},
		{digits("1"), vary(tbit(3)), "1", 0},
		{digits("01"), tbit(2), "01", 0},
		{digits("100"), tbit(1), "1", api.CStringSize},
		{digits("100"), vary(tbit(2)), "10", api.CStringSize},
		{digits("011"), tbit(2), "01", api.CStringSize},
		{digits(""), tbit(2), "00", 0},
		{text(whole), tchar(api.MaxLen), whole, 0},
		{text(whole), vary(tchar(api.MaxLen - 1)), whole[:api.MaxLen-1], api.CStringSize},
		{text("x"), tchar(api.MaxLen), "x" + strings.Repeat(" ", api.MaxLen-1), 0},
		{digits(ones), vary(tbit(api.MaxLen)), ones, 0},
		{digits("1"), tbit(api.MaxLen), "1" + strings.Repeat("0", api.MaxLen-1), 0},
	} {
		want := api.Value{Kind: x.v.Kind, S: x.want}
		if v, cond, e := bits.Fit(x.v, x.of); v != want || cond != x.cond || e != api.OK {
			t.Errorf("Fit(%+v, %+v) = %+v, %d, %d; want %q, %d", x.v, x.of, v, cond, e, x.want, x.cond)
		}
	}
}

func TestJoin(t *testing.T) {
	whole := long("abcd", api.MaxLen)
	for _, x := range []struct{ a, b, want api.Value }{
		{text("ab"), text("cde"), text("abcde")},
		{text("cde"), text("ab"), text("cdeab")},
		{text(" a "), text(" b"), text(" a  b")},
		{text(""), text("x"), text("x")},
		{text("x"), text(""), text("x")},
		{text(""), text(""), text("")},
		{digits("01"), digits("1"), digits("011")},
		{digits(""), digits(""), digits("")},
		{text(whole[:100]), text(whole[100:]), text(whole)},
		{text(whole), text(""), text(whole)},
		{text(""), text(whole), text(whole)},
	} {
		checkString(t, x.want)(bits.Join(x.a, x.b))
	}
}

func TestRepeat(t *testing.T) {
	checkString(t, text("ababab"))(bits.Repeat(text("ab"), 2))
	checkString(t, text("abab"))(bits.Repeat(text("ab"), 1))
	checkString(t, text("ab"))(bits.Repeat(text("ab"), 0))
	checkString(t, text("ab"))(bits.Repeat(text("ab"), -1))
	checkString(t, text("ab"))(bits.Repeat(text("ab"), -api.MaxCount))
	checkString(t, digits("011011"))(bits.Repeat(digits("011"), 1))
	checkString(t, text(long("ab", api.MaxLen)))(bits.Repeat(text("ab"), 124))
	checkString(t, text(long("x", api.MaxLen)))(bits.Repeat(text("x"), 249))
	checkString(t, text(long("xyz", api.MaxLen)))(bits.Repeat(text(long("xyz", api.MaxLen)), 0))
	checkString(t, text(long("xyz", api.MaxLen)))(bits.Repeat(text(long("xyz", api.MaxLen)), -3))
	for _, n := range []int{-api.MaxCount, -1, 0, 1, 250, api.MaxCount} {
		checkString(t, text(""))(bits.Repeat(text(""), n))
		checkString(t, digits(""))(bits.Repeat(digits(""), n))
	}
}

func TestCopy(t *testing.T) {
	checkString(t, text("abab"))(bits.Copy(text("ab"), 2))
	checkString(t, text("ab"))(bits.Copy(text("ab"), 1))
	checkString(t, text(""))(bits.Copy(text("ab"), 0))
	checkString(t, digits("011011011"))(bits.Copy(digits("011"), 3))
	checkString(t, digits(""))(bits.Copy(digits("011"), 0))
	checkString(t, text(long("ab", api.MaxLen)))(bits.Copy(text("ab"), 125))
	checkString(t, text(long("x", api.MaxLen)))(bits.Copy(text("x"), 250))
	checkString(t, text(long("xyz", api.MaxLen)))(bits.Copy(text(long("xyz", api.MaxLen)), 1))
	for _, n := range []int{0, 1, 251, api.MaxCount} {
		checkString(t, text(""))(bits.Copy(text(""), n))
		checkString(t, digits(""))(bits.Copy(digits(""), n))
	}
}

func TestReverse(t *testing.T) {
	checkString(t, text("cba"))(bits.Reverse(text("abc")))
	checkString(t, text(" dcba "))(bits.Reverse(text(" abcd ")))
	checkString(t, text("a"))(bits.Reverse(text("a")))
	checkString(t, text(""))(bits.Reverse(text("")))
	checkString(t, digits("0011"))(bits.Reverse(digits("1100")))
	checkString(t, digits(""))(bits.Reverse(digits("")))
	checkString(t, text(long("a", 249)+"b"))(bits.Reverse(text("b" + long("a", 249))))
}

func TestTrim(t *testing.T) {
	checkString(t, text("a b"))(bits.Trim(text("  a b ")))
	checkString(t, text("a  b"))(bits.Trim(text("a  b")))
	checkString(t, text("x"))(bits.Trim(text("x    ")))
	checkString(t, text("x"))(bits.Trim(text("    x")))
	checkString(t, text(""))(bits.Trim(text("   ")))
	checkString(t, text(""))(bits.Trim(text("")))
	checkString(t, text("!x~"))(bits.Trim(text(" !x~ ")))
	checkString(t, text("0 0"))(bits.Trim(text("0 0")))
	checkString(t, text("x"))(bits.Trim(text(long(" ", 124) + "x" + long(" ", 125))))
}

func TestLowAndHigh(t *testing.T) {
	for _, n := range []int{0, 1, 2, 100, 249, 250} {
		checkString(t, text(strings.Repeat(" ", n)))(bits.Low(n))
		checkString(t, text(strings.Repeat("~", n)))(bits.High(n))
	}
}

// checkString holds what a function tells against a string.
func checkString(t *testing.T, want api.Value) func(v api.Value, e api.Errno) {
	return func(v api.Value, e api.Errno) {
		t.Helper()
		if v != want || e != api.OK {
			t.Errorf("%+v, %d; want %+v", v, e, want)
		}
	}
}

// checkAnswer holds what a function tells against a number or a truth.
func checkAnswer[T comparable](t *testing.T, want T) func(got T, e api.Errno) {
	return func(got T, e api.Errno) {
		t.Helper()
		if got != want || e != api.OK {
			t.Errorf("%v, %d; want %v", got, e, want)
		}
	}
}

func wrongValues() []api.Value {
	return []api.Value{
		{}, {S: "a"}, {Kind: -1}, {Kind: 10, S: "1"}, {Kind: math.MaxInt}, {Kind: math.MinInt}, {Kind: api.TBin}, {Kind: api.TDec, N: 1}, {Kind: api.TFloat}, {Kind: api.TPic, S: "1"}, {Kind: api.TPtr}, {Kind: api.TLabel}, {Kind: api.TEntry}, {Kind: api.TDec, S: "1"},
		{Kind: api.TChar, N: 1, S: "a"}, {Kind: api.TChar, Q: 1, S: "a"}, {Kind: api.TChar, N: -1}, {Kind: api.TChar, Q: math.MinInt}, {Kind: api.TBit, N: 1, S: "1"}, {Kind: api.TBit, Q: -1, S: "1"}, {Kind: api.TBit, N: math.MaxInt}, {Kind: api.TChar, N: 1, Q: 1},
		text("\x1f"), text("a\n"), text("\x7f"), text("\x00"), text("\x80"), text("a\xff"), text("é"), text(" \t "), text("\x1fab"), text("a\x7fb"),
		digits("2"), digits("/"), digits(" "), digits("12"), digits("21"), digits("1 "), digits(" 1"), digits("1\x00"), digits("a"), digits("1B"), digits("0x1"), digits("-1"),
		text(long("a", api.MaxLen+1)), text(long(" ", api.MaxLen+1)), digits(long("0", api.MaxLen+1)), digits(long("01", 100000)), text(long("a", 100000)),
	}
}

func wrongTypes() []api.Type {
	return []api.Type{
		{}, {N: 1}, {Kind: -1, N: 1}, {Kind: 10, N: 1}, {Kind: math.MaxInt}, {Kind: math.MinInt}, {Kind: api.TBin, P: 1}, {Kind: api.TDec, P: 1}, {Kind: api.TDec, N: 1}, {Kind: api.TFloat, P: 1}, {Kind: api.TFloat, N: 1}, {Kind: api.TPic, Pic: "9"}, {Kind: api.TPic, N: 1}, {Kind: api.TPtr}, {Kind: api.TLabel}, {Kind: api.TEntry}, {Kind: api.TPtr, Vary: true},
		tchar(-1), tchar(251), tbit(-1), tbit(251), vary(tchar(-1)), vary(tchar(251)), vary(tbit(-1)), vary(tbit(251)), tchar(math.MaxInt), tchar(math.MinInt), tbit(math.MaxInt), tbit(math.MinInt),
		{Kind: api.TChar, N: 1, P: 1}, {Kind: api.TChar, N: 1, Q: 1}, {Kind: api.TChar, N: 1, Pic: "X"}, {Kind: api.TBit, N: 1, P: -1}, {Kind: api.TBit, N: 1, Q: -1}, {Kind: api.TBit, N: 1, Pic: " "}, {Kind: api.TChar, Vary: true, P: 1}, {Kind: api.TBit, Vary: true, Pic: "9"},
	}
}
