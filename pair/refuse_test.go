package pair_test

import (
	"math"
	"math/rand"
	"strings"
	"testing"

	"ironbark/api"
	"ironbark/pair"
)

func wrongValues() []api.Value {
	return []api.Value{
		{}, {Kind: -1}, {Kind: 10}, {Kind: math.MaxInt, N: math.MaxInt, Q: math.MaxInt}, vdec(mostDec+1, 0), vdec(math.MinInt, 0), vdec(1, 32), vdec(1, -1), {Kind: api.TDec, S: "1"},
		vbin(mostBin+1, 0), vbin(1, 32), vbin(1, -1), vbin(math.MinInt, math.MinInt), vfloat(0, 1), vfloat(10, 0), vfloat(1, 76), vfloat(1, -76), vfloat(mostDec+2, 0), vfloat(1, math.MaxInt),
		text(strings.Repeat("x", api.MaxLen+1)), {Kind: api.TChar, N: 1}, {Kind: api.TBit, S: "2"}, {Kind: api.TPtr, N: -1}, {Kind: api.TLabel, Q: -1}, {Kind: api.TEntry, S: "x"},
	}
}

func wrongTypes() []api.Type {
	return []api.Type{
		{}, {Kind: -1}, {Kind: 10}, {Kind: math.MinInt}, tbin(0, 0), tbin(32, 0), tbin(31, 32), tdec(0, 0), tdec(16, 0), tdec(1, -1), tfloat(0), tfloat(16), {Kind: api.TFloat, P: 1, Q: 1}, {Kind: api.TDec, P: 1, N: 1},
		tchar(-1), tchar(api.MaxLen + 1), {Kind: api.TBit, N: 1, P: 1}, {Kind: api.TPic}, {Kind: api.TPtr, N: 1},
	}
}

// noNumbers are pairs whose parts are of the type beside them, which is none of numbers.
func noNumbers() []number {
	twice := func(v api.Value, of api.Type) number { return number{both(v, v), of} }
	return []number{
		twice(text("1"), tchar(1)), twice(text(""), tchar(0)), twice(api.Value{Kind: api.TBit, S: "1"}, api.Type{Kind: api.TBit, N: 1}), twice(api.Value{Kind: api.TPic, S: "1"}, api.Type{Kind: api.TPic, Pic: "9"}),
		twice(api.Value{Kind: api.TPtr, N: 1}, api.Type{Kind: api.TPtr}), twice(api.Value{Kind: api.TLabel, N: 1}, api.Type{Kind: api.TLabel}), twice(api.Value{Kind: api.TEntry}, api.Type{Kind: api.TEntry}),
	}
}

// strangers are valid pairs of which a part is not of the valid type beside them.
func strangers() []number {
	var l []number
	one := map[int]api.Value{api.TBin: vbin(1, 0), api.TDec: vdec(1, 0), api.TFloat: vfloat(1, 0), api.TChar: text("1")}
	for _, x := range []struct {
		v  api.Value
		of api.Type
	}{
		{vdec(10, 0), tdec(1, 0)}, {vdec(1, 1), tdec(2, 0)}, {vdec(1, 0), tbin(1, 0)}, {vdec(1, 0), tfloat(1)}, {vbin(2, 0), tbin(1, 0)}, {vbin(1, 1), tbin(5, 0)}, {vfloat(11, 0), tfloat(1)}, {vfloat(1, 0), tdec(1, 0)},
		{vdec(1, 0), tchar(1)}, {text("1"), tdec(1, 0)}, {text("12"), tchar(1)},
	} {
		right := one[x.of.Kind]
		l = append(l, number{both(x.v, right), x.of}, number{both(right, x.v), x.of}, number{both(x.v, x.v), x.of})
	}
	return l
}

// with are the pairs of which one part is a value, and the other one a right number or that value.
func with(v api.Value) []api.Pair {
	return []api.Pair{both(v, vdec(1, 0)), both(vdec(1, 0), v), both(v, v)}
}

var (
	operators   = []string{"+", "-", "*", "/"}
	noOperators = []string{"", "**", "++", " +", "+ ", "=", "^=", "||", "I", "\xff"}
)

func refusesDo(t *testing.T, op string, x, y number, want api.Errno) {
	t.Helper()
	if z, of, cond, e := pair.Do(op, x.Pair, y.Pair, x.of, y.of); z != (api.Pair{}) || of != (api.Type{}) || cond != 0 || e != want {
		t.Errorf("%+v %q %+v = %+v, %+v, %d, %d; want %d", x, op, y, z, of, cond, e, want)
	}
}

func TestDoErrors(t *testing.T) {
	right, wrongType := dec(1, 1, 1, 0), number{dec(1, 1, 1, 0).Pair, tdec(16, 0)}
	others := append(append(noNumbers(), strangers()...), right, wrongType)
	for _, op := range append(append([]string{}, operators...), noOperators...) {
		for _, v := range wrongValues() {
			for _, wrong := range with(v) {
				for _, y := range others {
					refusesDo(t, op, number{wrong, right.of}, y, api.ErrInvalid)
					refusesDo(t, op, y, number{wrong, right.of}, api.ErrInvalid)
				}
				refusesDo(t, op, number{wrong, wrongType.of}, wrongType, api.ErrInvalid)
			}
		}
		for _, x := range append(strangers(), wrongType) {
			for _, y := range others {
				refusesDo(t, op, x, y, api.ErrType)
				refusesDo(t, op, y, x, api.ErrType)
			}
		}
		for _, of := range wrongTypes() {
			refusesDo(t, op, right, number{right.Pair, of}, api.ErrType)
			refusesDo(t, op, number{right.Pair, of}, noNumbers()[1], api.ErrType)
			refusesDo(t, op, number{noNumbers()[1].Pair, of}, right, api.ErrType)
		}
		for _, x := range noNumbers() {
			refusesDo(t, op, x, right, api.ErrKind)
			refusesDo(t, op, right, x, api.ErrKind)
			refusesDo(t, op, x, x, api.ErrKind)
		}
	}
	for _, op := range noOperators {
		refusesDo(t, op, right, right, api.ErrName)
		refusesDo(t, op, float(1, 0, 1, 75, 1), dec(0, 0, 1, 0), api.ErrName)
	}
}

// What Power and Norm ask of an operand alike.
func TestOperandErrors(t *testing.T) {
	refuses := func(x number, want api.Errno) {
		t.Helper()
		for _, n := range []int{0, 1, 100, -1, 101, math.MinInt, math.MaxInt} {
			if z, of, cond, e := pair.Power(x.Pair, n, x.of); z != (api.Pair{}) || of != (api.Type{}) || cond != 0 || e != want {
				t.Errorf("Power(%+v, %d) = %+v, %+v, %d, %d; want %d", x, n, z, of, cond, e, want)
			}
		}
		if v, of, cond, e := pair.Norm(x.Pair, x.of); v != (api.Value{}) || of != (api.Type{}) || cond != 0 || e != want {
			t.Errorf("Norm(%+v) = %+v, %+v, %d, %d; want %d", x, v, of, cond, e, want)
		}
	}
	for _, v := range wrongValues() {
		for _, wrong := range with(v) {
			for _, of := range append(wrongTypes(), tdec(1, 0), tchar(1)) {
				refuses(number{wrong, of}, api.ErrInvalid)
			}
		}
		refuses(number{both(v, text("1")), tchar(1)}, api.ErrInvalid)
		refuses(number{both(text("1"), v), tchar(1)}, api.ErrInvalid)
	}
	for _, of := range wrongTypes() {
		refuses(number{dec(1, 1, 1, 0).Pair, of}, api.ErrType)
		refuses(number{both(text(""), text("")), of}, api.ErrType)
	}
	for _, x := range strangers() {
		refuses(x, api.ErrType)
	}
	for _, x := range noNumbers() {
		refuses(x, api.ErrKind)
	}
}

func TestPowerErrors(t *testing.T) {
	for _, n := range []int{-1, 101, -100, 1000, math.MinInt, math.MaxInt} {
		for _, x := range []number{dec(1, 0, 1, 0), dec(0, 0, 1, 0), bin(1, 1, 5, 0), float(1, 75, 1, 75, 1)} {
			if z, of, cond, e := pair.Power(x.Pair, n, x.of); z != (api.Pair{}) || of != (api.Type{}) || cond != 0 || e != api.ErrRange {
				t.Errorf("Power(%+v, %d) = %+v, %+v, %d, %d", x, n, z, of, cond, e)
			}
		}
	}
}

func TestEqualErrors(t *testing.T) {
	refuses := func(x, y api.Pair, want api.Errno) {
		t.Helper()
		if is, e := pair.Equal(x, y); is || e != want {
			t.Errorf("Equal(%+v, %+v) is %v, %d; want %d", x, y, is, e, want)
		}
	}
	right := dec(1, 1, 1, 0).Pair
	for _, v := range wrongValues() {
		for _, x := range append(with(v), both(text("1"), v)) {
			for _, y := range []api.Pair{right, x, both(text("1"), text("1"))} {
				refuses(x, y, api.ErrInvalid)
				refuses(y, x, api.ErrInvalid)
			}
		}
	}
	for _, no := range noNumbers() {
		for _, x := range append(with(no.Re), both(no.Re, text("1"))) {
			// Parts that differ do not end it: the others are asked all the same.
			for _, y := range []api.Pair{right, x, dec(2, 2, 1, 0).Pair, float(1, 0, 5, 3, 1).Pair} {
				refuses(x, y, api.ErrKind)
				refuses(y, x, api.ErrKind)
			}
		}
	}
}

func TestConjugateErrors(t *testing.T) {
	refuses := func(x api.Pair, want api.Errno) {
		t.Helper()
		if z, e := pair.Conjugate(x); z != (api.Pair{}) || e != want {
			t.Errorf("Conjugate(%+v) = %+v, %d; want %d", x, z, e, want)
		}
	}
	for _, v := range wrongValues() {
		for _, x := range append(with(v), both(text("1"), v), both(v, text("1"))) {
			refuses(x, api.ErrInvalid)
		}
	}
	for _, no := range noNumbers() {
		for _, x := range append(with(no.Re), both(no.Re, text("1")), both(text("1"), no.Re)) {
			refuses(x, api.ErrKind)
		}
	}
}

func TestFitErrors(t *testing.T) {
	refuses := func(x api.Pair, of api.Type, want api.Errno) {
		t.Helper()
		if z, cond, e := pair.Fit(x, of); z != (api.Pair{}) || cond != 0 || e != want {
			t.Errorf("Fit(%+v, %+v) = %+v, %d, %d; want %d", x, of, z, cond, e, want)
		}
	}
	// A condition of Re beside them does not matter.
	right := both(vdec(123, 0), vdec(1, 0))
	for _, v := range wrongValues() {
		for _, x := range append(with(v), both(text("1"), v), both(vdec(123, 0), v)) {
			for _, of := range append(wrongTypes(), tdec(1, 0), tchar(1)) {
				refuses(x, of, api.ErrInvalid)
			}
		}
	}
	for _, of := range wrongTypes() {
		refuses(right, of, api.ErrType)
		refuses(both(text(""), text("")), of, api.ErrType)
		refuses(both(vdec(1, 0), text("")), of, api.ErrType)
	}
	for _, no := range noNumbers() {
		refuses(right, no.of, api.ErrKind)
		refuses(no.Pair, no.of, api.ErrKind)
		for _, x := range append(with(no.Re), both(vdec(123, 0), no.Re)) {
			refuses(x, tdec(1, 0), api.ErrKind)
		}
	}
}

func TestTextErrors(t *testing.T) {
	refuses := func(x api.Pair, want api.Errno) {
		t.Helper()
		if s, e := pair.Text(x); s != "" || e != want {
			t.Errorf("Text(%+v) is %q, %d; want %d", x, s, e, want)
		}
	}
	for _, v := range wrongValues() {
		for _, x := range append(with(v), both(text("1"), v), both(vbin(1, 0), v), both(v, vfloat(1, 0))) {
			refuses(x, api.ErrInvalid)
		}
	}
	for _, x := range []api.Pair{
		both(vbin(1, 0), vbin(1, 0)), both(vbin(1, 0), vbin(1, 1)), both(vdec(1, 0), vdec(1, 1)), both(vdec(0, 2), vdec(0, 1)), both(vdec(1, 0), vfloat(1, 0)), both(vfloat(1, 0), vdec(1, 0)),
		both(vbin(1, 0), vdec(1, 0)), both(vdec(1, 0), vbin(1, 0)), both(vbin(1, 0), vfloat(1, 0)), both(vfloat(1, 0), vbin(1, 0)),
	} {
		refuses(x, api.ErrType)
	}
	for i, no := range noNumbers() {
		for _, v := range []api.Value{vdec(1, 0), vbin(1, 0), vfloat(1, 0)} {
			refuses(both(no.Re, v), api.ErrType)
			refuses(both(v, no.Re), api.ErrType)
		}
		refuses(both(no.Re, noNumbers()[(i+2)%len(noNumbers())].Re), api.ErrType)
		refuses(no.Pair, api.ErrKind)
	}
	refuses(both(text("1"), text("22")), api.ErrKind)
	refuses(both(api.Value{Kind: api.TLabel, Q: 1}, api.Value{Kind: api.TLabel, Q: 2}), api.ErrKind)
}

// P4.1: whatever the arguments, a call ends and does not panic.
func TestAnyArguments(t *testing.T) {
	r := rand.New(rand.NewSource(1))
	values, of := wrongValues(), wrongTypes()
	for _, x := range append(noNumbers(), strangers()...) {
		values, of = append(values, x.Re, x.Im), append(of, x.of)
	}
	some := func() api.Pair { return both(values[r.Intn(len(values))], values[r.Intn(len(values))]) }
	names := append(append([]string{}, operators...), noOperators...)
	for range 20000 {
		x, y, ta, tb := some(), some(), of[r.Intn(len(of))], of[r.Intn(len(of))]
		pair.Has(ta, x)
		pair.Do(names[r.Intn(len(names))], x, y, ta, tb)
		pair.Power(x, r.Intn(104)-2, ta)
		pair.Equal(x, y)
		pair.Conjugate(x)
		pair.Norm(x, ta)
		pair.Fit(x, tb)
		pair.Text(x)
	}
}
