package arith_test

import (
	"math"
	"math/rand"
	"strings"
	"testing"

	"ironbark/api"
	"ironbark/arith"
	"ironbark/digit"
	"ironbark/rule"
)

// number is a value with its type.
type number struct {
	api.Value
	of api.Type
}

func tbin(p, q int) api.Type { return api.Type{Kind: api.TBin, P: p, Q: q} }

func tdec(p, q int) api.Type { return api.Type{Kind: api.TDec, P: p, Q: q} }

func tfloat(p int) api.Type { return api.Type{Kind: api.TFloat, P: p} }

func vbin(n, q int) api.Value { return api.Value{Kind: api.TBin, N: n, Q: q} }

func vdec(n, q int) api.Value { return api.Value{Kind: api.TDec, N: n, Q: q} }

func vfloat(n, q int) api.Value { return api.Value{Kind: api.TFloat, N: n, Q: q} }

// bin, dec and float are numbers of P bits or digits.
func bin(n, p, q int) number { return number{vbin(n, q), tbin(p, q)} }

func dec(n, p, q int) number { return number{vdec(n, q), tdec(p, q)} }

func float(n, q, p int) number { return number{vfloat(n, q), tfloat(p)} }

const (
	mostDec = 999_999_999_999_999
	mostBin = 1<<31 - 1
)

type done struct {
	op   string
	a, b number
	want number
	cond int
}

func checkDone(t *testing.T, l []done) {
	t.Helper()
	for _, x := range l {
		v, r, cond, e := arith.Do(x.op, x.a.Value, x.b.Value, x.a.of, x.b.of)
		if v != x.want.Value || r != x.want.of || cond != x.cond || e != api.OK {
			t.Errorf("%+v %s %+v = %+v, %+v, %d, %d; want %+v, %d", x.a, x.op, x.b, v, r, cond, e, x.want, x.cond)
		}
	}
}

func TestSumsAndDifferences(t *testing.T) {
	checkDone(t, []done{
		{"+", dec(25, 2, 0), dec(33333333333333, 15, 14), dec(533333333333333, 15, 14), api.CFixedOverflow}, // the chapter's example
		{"+", dec(125, 3, 2), dec(25, 2, 1), dec(375, 4, 2), 0},
		{"-", dec(125, 3, 2), dec(25, 2, 1), dec(-125, 4, 2), 0},
		{"+", dec(99, 2, 0), dec(1, 2, 0), dec(100, 3, 0), 0},
		{"-", dec(7, 1, 0), dec(7, 1, 0), dec(0, 2, 0), 0},
		{"+", dec(mostDec, 15, 0), dec(1, 1, 0), dec(0, 15, 0), api.CFixedOverflow},
		{"-", dec(-mostDec, 15, 0), dec(3, 1, 0), dec(-2, 15, 0), api.CFixedOverflow},
		{"+", bin(5, 3, 0), bin(3, 2, 1), bin(13, 5, 1), 0},
		{"+", bin(mostBin, 31, 0), bin(2, 2, 0), bin(1, 31, 0), api.CFixedOverflow},
		{"-", bin(-mostBin, 31, 0), bin(1, 1, 0), bin(0, 31, 0), api.CFixedOverflow},
		{"+", bin(3, 3, 0), dec(1, 1, 1), bin(49, 8, 4), 0},
		{"-", dec(1, 1, 1), bin(3, 3, 0), bin(-46, 8, 4), 0},
		{"+", float(1, 0, 1), dec(25, 2, 2), float(13, -1, 2), 0},
		{"-", float(1, 0, 1), dec(25, 2, 2), float(75, -2, 2), 0},
		{"+", float(1, 75, 1), float(1, 0, 1), float(1, 75, 1), 0},
		{"+", float(9, 75, 1), float(9, 75, 3), float(0, 0, 3), api.COverflow},
		{"-", float(-5, 75, 1), float(5, 75, 1), float(0, 0, 1), api.COverflow},
		{"-", float(12, -75, 2), float(11, -75, 2), float(1, -75, 2), 0},
		{"-", float(11, -75, 2), float(105, -76, 3), float(0, 0, 3), api.CUnderflow},
	})
}

func TestProducts(t *testing.T) {
	checkDone(t, []done{
		{"*", dec(123, 3, 1), dec(45, 2, 0), dec(5535, 6, 1), 0},
		{"*", dec(-9, 1, 0), dec(9, 1, 0), dec(-81, 3, 0), 0},
		{"*", dec(mostDec, 15, 0), dec(mostDec, 15, 0), dec(1, 15, 0), api.CFixedOverflow},
		{"*", dec(3, 1, 20), dec(-5, 1, 20), dec(0, 3, 31), 0},
		// An operand is not brought to the common base first: 0.1 would be 1/16.
		{"*", bin(3, 3, 0), dec(1, 1, 1), bin(4, 9, 4), 0},
		{"*", bin(mostBin, 31, 0), bin(-mostBin, 31, 0), bin(-1, 31, 0), api.CFixedOverflow},
		{"*", float(25, 0, 2), float(3, -1, 1), float(75, -1, 2), 0},
		{"*", float(15, 0, 2), float(15, 0, 2), float(23, 1, 2), 0},
		{"*", float(1, 75, 1), dec(10, 2, 0), float(0, 0, 2), api.COverflow},
		{"*", float(1, -75, 1), dec(1, 1, 1), float(0, 0, 1), api.CUnderflow},
		{"*", float(0, 0, 1), float(9, 75, 1), float(0, 0, 1), 0},
	})
}

func TestQuotients(t *testing.T) {
	checkDone(t, []done{
		{"/", dec(1, 1, 0), dec(3, 1, 0), dec(33333333333333, 15, 14), 0}, // the chapter's example
		{"/", dec(-2, 1, 0), dec(3, 1, 0), dec(-66666666666666, 15, 14), 0},
		{"/", dec(25, 2, 0), dec(0, 1, 0), dec(0, 15, 13), api.CZeroDivide},
		{"/", dec(0, 1, 0), dec(0, 1, 0), dec(0, 15, 14), api.CZeroDivide},
		{"/", dec(mostDec, 15, 0), dec(1, 1, 1), dec(999999999999990, 15, 0), api.CFixedOverflow},
		{"/", bin(1, 1, 0), bin(3, 2, 0), bin(357913941, 31, 30), 0},
		{"/", bin(1, 1, 0), bin(0, 2, 2), bin(0, 31, 28), api.CZeroDivide},
		{"/", bin(-mostBin, 31, 0), bin(1, 1, 1), bin(-mostBin+1, 31, 0), api.CFixedOverflow},
		{"/", float(2, 0, 1), dec(3, 3, 0), float(667, -3, 3), 0},
		{"/", float(2, 0, 1), float(0, 0, 1), float(0, 0, 1), api.CZeroDivide},
		{"/", float(1, 75, 1), float(1, -1, 1), float(0, 0, 1), api.COverflow},
		{"/", float(1, -75, 1), float(3, 0, 1), float(0, 0, 1), api.CUnderflow},
	})
}

type compared struct {
	a, b  api.Value
	order int
}

func TestCompare(t *testing.T) {
	for _, x := range []compared{
		{vdec(1, 0), vdec(11, 1), -1}, {vdec(1, 0), vdec(10, 1), 0}, {vdec(-1, 0), vdec(-11, 1), 1}, {vdec(0, 5), vfloat(0, 0), 0},
		{vbin(1, 1), vdec(5, 1), 0}, {vbin(1, 2), vfloat(25, -2), 0}, {vbin(13, 4), vdec(8125, 4), 0},
		// the nearest decimal numbers beside 2 to the power of -31
		{vbin(1, 31), vfloat(465661287307739, -24), 1}, {vbin(1, 31), vfloat(46566128730774, -23), -1},
		{vfloat(1, 75), vdec(mostDec, 0), 1}, {vfloat(-1, 75), vfloat(1, -75), -1}, {vfloat(1, -75), vdec(0, 31), 1}, {vfloat(3, -1), vdec(3, 1), 0},
		{vdec(mostDec, 0), vfloat(1, 15), -1}, {vbin(mostBin, 0), vdec(2147483648, 0), -1},
	} {
		checkCompared(t, x)
		checkCompared(t, compared{x.b, x.a, -x.order})
	}
}

func checkCompared(t *testing.T, x compared) {
	t.Helper()
	for op, want := range map[string]bool{"=": x.order == 0, "^=": x.order != 0, "<": x.order < 0, "<=": x.order <= 0, ">": x.order > 0, ">=": x.order >= 0} {
		if is, e := arith.Compare(op, x.a, x.b); is != want || e != api.OK {
			t.Errorf("%+v %s %+v is %v, %d", x.a, op, x.b, is, e)
		}
	}
}

func TestNegate(t *testing.T) {
	for _, x := range []number{dec(5, 1, 0), dec(-mostDec, 15, 31), dec(0, 3, 2), bin(mostBin, 31, 31), bin(-1, 1, 0), float(1, 75, 1), float(-123, -77, 15), float(0, 0, 2)} {
		want := x.Value
		want.N = -want.N
		if v, r, e := arith.Negate(x.Value, x.of); v != want || r != x.of || e != api.OK {
			t.Errorf("Negate(%+v) = %+v, %+v, %d", x, v, r, e)
		}
	}
}

func TestStore(t *testing.T) {
	for _, x := range []struct {
		v    api.Value
		t    api.Type
		w    api.Value
		cond int
		e    api.Errno
	}{
		{vdec(125, 2), tdec(2, 1), vdec(12, 1), 0, 0}, {vdec(123, 0), tdec(2, 0), vdec(23, 0), api.CSize, 0}, {vdec(-5, 1), tfloat(1), vfloat(-5, -1), 0, 0},
		{vbin(-9, 0), tbin(3, 0), vbin(-1, 0), api.CSize, 0}, {vfloat(1, 75), tdec(1, 0), vdec(0, 0), api.CSize, 0}, {vfloat(95, 74), tfloat(1), vfloat(0, 0), api.COverflow, 0},
		{vdec(1, 32), tdec(16, 0), api.Value{}, 0, api.ErrInvalid}, {vdec(1, 0), tdec(16, 0), api.Value{}, 0, api.ErrType}, {text("1"), tdec(0, 0), api.Value{}, 0, api.ErrType},
		{text("1"), tdec(1, 0), api.Value{}, 0, api.ErrKind}, {vdec(1, 0), tchar(1), api.Value{}, 0, api.ErrKind},
	} {
		if w, cond, e := arith.Store(x.v, x.t); w != x.w || cond != x.cond || e != x.e {
			t.Errorf("Store(%+v, %+v) = %+v, %d, %d", x.v, x.t, w, cond, e)
		}
	}
}

func text(s string) api.Value { return api.Value{Kind: api.TChar, S: s} }

func tchar(n int) api.Type { return api.Type{Kind: api.TChar, N: n} }

func wrongValues() []api.Value {
	return []api.Value{
		{}, {Kind: -1}, {Kind: 10}, {Kind: math.MaxInt, N: math.MaxInt, Q: math.MaxInt}, vdec(mostDec+1, 0), vdec(math.MinInt, 0), vdec(1, 32), vdec(1, -1), {Kind: api.TDec, S: "1"},
		vbin(mostBin+1, 0), vbin(1, 32), vbin(1, -1), vbin(math.MinInt, math.MinInt), vfloat(0, 1), vfloat(10, 0), vfloat(1, 76), vfloat(1, -76), vfloat(mostDec+2, 0), vfloat(1, math.MaxInt),
		text(strings.Repeat("x", api.MaxLen+1)), {Kind: api.TChar, N: 1}, {Kind: api.TBit, S: "2"}, {Kind: api.TPtr, N: -1}, {Kind: api.TLabel, Q: -1}, {Kind: api.TEntry, S: "x"},
	}
}

func wrongTypes() []api.Type {
	return []api.Type{
		{}, {Kind: -1}, {Kind: 10}, {Kind: math.MinInt}, tbin(0, 0), tbin(32, 0), tbin(31, 32), tdec(0, 0), tdec(16, 0), tdec(1, -1), tfloat(0), tfloat(16), {Kind: api.TFloat, P: 1, Q: 1}, {Kind: api.TDec, P: 1, N: 1},
		tchar(-1), tchar(api.MaxLen + 1), {Kind: api.TBit, N: 1, P: 1}, {Kind: api.TPic}, {Kind: api.TPtr, N: 1},
	}
}

// noNumbers have types, but are no numbers.
func noNumbers() []number {
	return []number{
		{text("1"), tchar(1)}, {text(""), tchar(0)}, {api.Value{Kind: api.TBit, S: "1"}, api.Type{Kind: api.TBit, N: 1}}, {api.Value{Kind: api.TPic, S: "1"}, api.Type{Kind: api.TPic, Pic: "9"}},
		{api.Value{Kind: api.TPtr, N: 1}, api.Type{Kind: api.TPtr}}, {api.Value{Kind: api.TLabel, N: 1}, api.Type{Kind: api.TLabel}}, {api.Value{Kind: api.TEntry}, api.Type{Kind: api.TEntry}},
	}
}

// strangers are numbers that are not of the types beside them.
func strangers() []number {
	return []number{
		{vdec(10, 0), tdec(1, 0)}, {vdec(1, 1), tdec(2, 0)}, {vdec(1, 0), tbin(1, 0)}, {vdec(1, 0), tfloat(1)}, {vbin(2, 0), tbin(1, 0)}, {vbin(1, 1), tbin(5, 2)}, {vfloat(11, 0), tfloat(1)}, {vfloat(1, 0), tdec(1, 0)},
		{vdec(1, 0), tchar(1)}, {text("1"), tdec(1, 0)}, {text("12"), tchar(1)}, {text("1"), api.Type{Kind: api.TPic, Pic: "9"}},
	}
}

var (
	operators   = []string{"+", "-", "*", "/", "**"}
	comparisons = []string{"=", "^=", "<", "<=", ">", ">="}
	noOperators = []string{"", "++", "***", " +", "+ ", "=", "^=", "||", "MOD", "\xff", "¬", "&"}
	noCompares  = []string{"", "==", "!=", "¬=", "~=", "^", "<>", "=<", "=>", "^<", "+", "\xff"}
)

func refusesDo(t *testing.T, op string, a, b number, want api.Errno) {
	t.Helper()
	if v, r, cond, e := arith.Do(op, a.Value, b.Value, a.of, b.of); v != (api.Value{}) || r != (api.Type{}) || cond != 0 || e != want {
		t.Errorf("%+v %q %+v = %+v, %+v, %d, %d; want %d", a, op, b, v, r, cond, e, want)
	}
}

func TestDoErrors(t *testing.T) {
	right, wrongType := dec(1, 1, 0), number{vdec(1, 0), tdec(16, 0)}
	for _, op := range append(append([]string{}, operators...), noOperators...) {
		for _, v := range wrongValues() {
			for _, x := range []number{right, wrongType, strangers()[0], noNumbers()[0], {v, tdec(1, 0)}} {
				refusesDo(t, op, number{v, right.of}, x, api.ErrInvalid)
				refusesDo(t, op, x, number{v, right.of}, api.ErrInvalid)
				refusesDo(t, op, x, number{v, tdec(16, 0)}, api.ErrInvalid)
			}
		}
		for _, x := range append(strangers(), wrongType) {
			for _, y := range append(noNumbers(), right, wrongType) {
				refusesDo(t, op, x, y, api.ErrType)
				refusesDo(t, op, y, x, api.ErrType)
			}
		}
		for _, x := range wrongTypes() {
			refusesDo(t, op, right, number{right.Value, x}, api.ErrType)
			refusesDo(t, op, number{right.Value, x}, noNumbers()[1], api.ErrType)
		}
		for _, x := range noNumbers() {
			refusesDo(t, op, x, right, api.ErrKind)
			refusesDo(t, op, right, x, api.ErrKind)
			refusesDo(t, op, x, x, api.ErrKind)
		}
	}
	for _, op := range noOperators {
		refusesDo(t, op, right, right, api.ErrName)
		refusesDo(t, op, float(1, 0, 1), dec(0, 1, 0), api.ErrName)
	}
}

func TestCompareErrors(t *testing.T) {
	refuses := func(op string, a, b api.Value, want api.Errno) {
		t.Helper()
		if is, e := arith.Compare(op, a, b); is || e != want {
			t.Errorf("%+v %q %+v is %v, %d; want %d", a, op, b, is, e, want)
		}
	}
	right := vdec(1, 0)
	for _, op := range append(append([]string{}, comparisons...), noCompares...) {
		for _, v := range wrongValues() {
			for _, x := range []api.Value{right, text("1"), v} {
				refuses(op, v, x, api.ErrInvalid)
				refuses(op, x, v, api.ErrInvalid)
			}
		}
		for _, x := range noNumbers() {
			refuses(op, x.Value, right, api.ErrKind)
			refuses(op, right, x.Value, api.ErrKind)
			refuses(op, x.Value, x.Value, api.ErrKind)
		}
	}
	for _, op := range noCompares {
		refuses(op, right, right, api.ErrName)
		refuses(op, vfloat(1, 0), vdec(2, 0), api.ErrName)
	}
}

func TestNegateErrors(t *testing.T) {
	refuses := func(x number, want api.Errno) {
		t.Helper()
		if v, r, e := arith.Negate(x.Value, x.of); v != (api.Value{}) || r != (api.Type{}) || e != want {
			t.Errorf("Negate(%+v) = %+v, %+v, %d; want %d", x, v, r, e, want)
		}
	}
	for _, v := range wrongValues() {
		refuses(number{v, tdec(1, 0)}, api.ErrInvalid)
		refuses(number{v, tdec(16, 0)}, api.ErrInvalid)
	}
	for _, x := range wrongTypes() {
		refuses(number{vdec(1, 0), x}, api.ErrType)
		refuses(number{text(""), x}, api.ErrType)
	}
	for _, x := range strangers() {
		refuses(x, api.ErrType)
	}
	for _, x := range noNumbers() {
		refuses(x, api.ErrKind)
	}
}

// someType is a type of numbers, often at an end.
func someType(r *rand.Rand) api.Type {
	p, q := 1+r.Intn(31), r.Intn(32)
	if r.Intn(3) > 0 {
		q = r.Intn(4)
	}
	switch r.Intn(3) {
	case 0:
		return tbin(p, q)
	case 1:
		return tdec(1+p%15, q)
	}
	return tfloat(1 + p%15)
}

// someOf is a number of a type, often 0, or at an end.
func someOf(r *rand.Rand, t api.Type) number {
	bound := 1
	for range t.P {
		if t.Kind == api.TBin {
			bound *= 2
		} else {
			bound *= 10
		}
	}
	n := r.Intn(bound)
	switch r.Intn(8) {
	case 0:
		n = 0
	case 1:
		n = bound - 1
	case 2, 3, 4:
		n %= 12
	}
	if n >= bound {
		n = 1
	}
	if r.Intn(2) == 0 {
		n = -n
	}
	if t.Kind == api.TFloat {
		v, _, _ := digit.Fit(vdec(n, 0), t)
		if n != 0 && r.Intn(2) == 0 {
			v.Q += r.Intn(122) - 61
		}
		return number{v, t}
	}
	return number{api.Value{Kind: t.Kind, N: n, Q: t.Q}, t}
}

// What is done is what layer digit reckons, in the type that layer rule tells.
func TestDoneByLowerLayers(t *testing.T) {
	reckon := map[string]func(a, b api.Value, t api.Type) (api.Value, int, api.Errno){"+": digit.Add, "-": digit.Subtract, "*": digit.Multiply, "/": digit.Divide}
	r := rand.New(rand.NewSource(1))
	for range 20000 {
		a, b := someOf(r, someType(r)), someOf(r, someType(r))
		for op, by := range reckon {
			of, _ := rule.Result(op, a.of, b.of)
			want, cond, _ := by(a.Value, b.Value, of)
			checkDone(t, []done{{op, a, b, number{want, of}, cond}})
		}
	}
}

// P3.2: what is told is of the type that is told, and P3.3: sums and products are the same turned.
func TestRulesAndTurned(t *testing.T) {
	r := rand.New(rand.NewSource(2))
	conds := map[int]int{}
	for range 20000 {
		a, b := someOf(r, someType(r)), someOf(r, someType(r))
		for _, op := range operators {
			v, of, cond, e := arith.Do(op, a.Value, b.Value, a.of, b.of)
			if e != api.OK || !digit.Has(of, v) {
				t.Fatalf("%+v %s %+v = %+v, %+v, %d, %d", a, op, b, v, of, cond, e)
			}
			conds[cond]++
			if op == "+" || op == "*" {
				checkDone(t, []done{{op, b, a, number{v, of}, cond}})
			}
		}
	}
	for _, cond := range []int{0, api.CFixedOverflow, api.COverflow, api.CUnderflow, api.CZeroDivide, api.CError} {
		if conds[cond] < 50 {
			t.Errorf("the condition %d was told %d times", cond, conds[cond])
		}
	}
}

// P3.4: what was added or multiplied with is taken away again, where nothing was lost.
func TestInverse(t *testing.T) {
	r := rand.New(rand.NewSource(3))
	tried := map[string]int{}
	back := func(there, here string, a, b number) {
		v, of, cond, _ := arith.Do(there, a.Value, b.Value, a.of, b.of)
		if cond != 0 || there == "*" && (b.N == 0 || of.Q < a.of.Q+b.of.Q) {
			return
		}
		w, last, cond, e := arith.Do(here, v, b.Value, of, b.of)
		if cond != 0 || last.Q < a.of.Q || last.Kind != a.of.Kind {
			return
		}
		tried[there]++
		if same, _ := arith.Compare("=", a.Value, w); !same || e != api.OK {
			t.Errorf("(%+v %s %+v) %s is %+v of %+v, %d", a, there, b, here, w, last, e)
		}
	}
	for range 40000 {
		ta, tb := someType(r), someType(r)
		if ta.Kind != tb.Kind || ta.Kind == api.TFloat {
			continue
		}
		a, b := someOf(r, ta), someOf(r, tb)
		back("+", "-", a, b)
		back("*", "/", a, b)
	}
	if tried["+"] < 1000 || tried["*"] < 1000 {
		t.Errorf("tried %v", tried)
	}
}

// P3.1: whatever the arguments, a call ends and does not panic.
func TestAnyArguments(t *testing.T) {
	r := rand.New(rand.NewSource(4))
	values, of := wrongValues(), wrongTypes()
	for _, x := range append(noNumbers(), strangers()...) {
		values, of = append(values, x.Value), append(of, x.of)
	}
	for range 20000 {
		a, b := values[r.Intn(len(values))], values[r.Intn(len(values))]
		ta, tb := of[r.Intn(len(of))], of[r.Intn(len(of))]
		op := append(operators, noOperators...)[r.Intn(len(operators)+len(noOperators))]
		arith.Do(op, a, b, ta, tb)
		arith.Compare(op, a, b)
		arith.Negate(a, ta)
		arith.Sum([]api.Value{a, b}, ta)
		arith.Polynomial(a, []api.Value{b}, tb)
		arith.Store(a, tb)
	}
}
