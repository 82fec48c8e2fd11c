package built_test

import (
	"testing"

	"ironbark/api"
	"ironbark/built"
)

// typing is a function's arguments, the first ones by their types, the last ones known numbers, and the type of the result.
type typing struct {
	name   string
	types  []api.Type
	counts []int
	want   api.Type
}

func types(l ...api.Type) []api.Type { return l }

func counts(l ...int) []int { return l }

// resultOf is what Result tells of arguments of which just the counts are known.
func resultOf(name string, ahead []api.Type, counts []int) (api.Type, api.Errno) {
	all, known := append([]api.Type(nil), ahead...), make([]api.Value, len(ahead))
	for _, n := range counts {
		all, known = append(all, tdec(15, 0)), append(known, vdec(n, 0))
	}
	return built.Result(name, all, known)
}

func checkTypes(t *testing.T, l []typing) {
	t.Helper()
	for _, x := range l {
		if of, e := resultOf(x.name, x.types, x.counts); of != x.want || e != api.OK {
			t.Errorf("Result(%q, %+v, %v) = %+v, %d; want %+v", x.name, x.types, x.counts, of, e, x.want)
		}
	}
}

// plainTypes are types of numbers and of strings.
func plainTypes() []api.Type {
	return types(
		tbin(1, 0), tbin(5, 2), tbin(31, 0), tbin(31, 31), tbin(3, 31), tdec(1, 0), tdec(5, 2), tdec(15, 0), tdec(15, 31), tdec(2, 9),
		tfloat(1), tfloat(6), tfloat(15), tchar(0), tchar(7), tchar(250), vary(tchar(0)), vary(tchar(9)), vary(tchar(250)),
		tbit(0), tbit(4), tbit(250), vary(tbit(0)), vary(tbit(5)), vary(tbit(250)))
}

func TestTypesOfOneNumber(t *testing.T) {
	checkTypes(t, []typing{
		{"ABS", types(tdec(5, 2)), nil, tdec(5, 2)}, {"ABS", types(tbin(5, 31)), nil, tbin(5, 31)}, {"ABS", types(tfloat(4)), nil, tfloat(4)},
		{"ABS", types(tchar(2)), nil, tdec(15, 0)}, {"ABS", types(vary(tbit(2))), nil, tbin(31, 0)},
		{"FLOOR", types(tdec(5, 2)), nil, tdec(4, 0)}, {"FLOOR", types(tdec(1, 0)), nil, tdec(2, 0)}, {"FLOOR", types(tdec(15, 0)), nil, tdec(15, 0)},
		{"CEIL", types(tdec(15, 1)), nil, tdec(15, 0)}, {"CEIL", types(tdec(15, 2)), nil, tdec(14, 0)}, {"CEIL", types(tdec(2, 2)), nil, tdec(1, 0)},
		{"TRUNC", types(tdec(2, 3)), nil, tdec(1, 0)}, {"TRUNC", types(tdec(2, 31)), nil, tdec(1, 0)}, {"TRUNC", types(tbin(31, 0)), nil, tbin(31, 0)},
		{"FLOOR", types(tbin(30, 0)), nil, tbin(31, 0)}, {"FLOOR", types(tbin(29, 0)), nil, tbin(30, 0)}, {"FLOOR", types(tbin(3, 5)), nil, tbin(1, 0)},
		{"FLOOR", types(tfloat(3)), nil, tfloat(3)}, {"FLOOR", types(tchar(3)), nil, tdec(15, 0)}, {"CEIL", types(tbit(3)), nil, tbin(31, 0)},
		{"ROUND", types(tdec(3, 2)), counts(1), tdec(3, 1)}, {"ROUND", types(tdec(5, 2)), counts(0), tdec(4, 0)}, {"ROUND", types(tdec(5, 2)), counts(2), tdec(6, 2)},
		{"ROUND", types(tdec(5, 2)), counts(11), tdec(15, 11)}, {"ROUND", types(tdec(5, 2)), counts(31), tdec(15, 31)}, {"ROUND", types(tdec(5, 9)), counts(1), tdec(1, 1)},
		{"ROUND", types(tdec(5, 9)), counts(4), tdec(1, 4)}, {"ROUND", types(tdec(5, 9)), counts(5), tdec(2, 5)}, {"ROUND", types(tdec(15, 0)), counts(0), tdec(15, 0)},
		{"ROUND", types(tbin(5, 2)), counts(1), tbin(5, 1)}, {"ROUND", types(tbin(31, 0)), counts(31), tbin(31, 31)}, {"ROUND", types(tbin(20, 0)), counts(10), tbin(31, 10)},
		{"ROUND", types(tbin(20, 0)), counts(9), tbin(30, 9)}, {"ROUND", types(tfloat(6)), counts(3), tfloat(3)}, {"ROUND", types(tfloat(6)), counts(15), tfloat(15)},
		{"ROUND", types(tfloat(6)), counts(1), tfloat(1)}, {"ROUND", types(tchar(9)), counts(2), tdec(15, 2)}, {"ROUND", types(tbit(9)), counts(0), tbin(31, 0)},
	})
	for _, of := range plainTypes() {
		for _, name := range []string{"SIGN", "LENGTH"} {
			checkTypes(t, []typing{{name, types(of), nil, tbin(31, 0)}})
		}
	}
}

func TestTypesOfNumbers(t *testing.T) {
	var alike []typing
	for _, name := range []string{"MOD", "MAX", "MIN"} {
		alike = append(alike,
			typing{name, types(tdec(5, 2), tdec(3, 1)), nil, tdec(5, 2)}, typing{name, types(tdec(5, 0), tdec(5, 4)), nil, tdec(9, 4)},
			typing{name, types(tdec(15, 0), tdec(15, 15)), nil, tdec(15, 15)}, typing{name, types(tdec(5, 0), tbin(3, 1)), nil, tbin(19, 1)},
			typing{name, types(tfloat(3), tbin(31, 0)), nil, tfloat(10)}, typing{name, types(tdec(5, 2), tfloat(3)), nil, tfloat(5)},
			typing{name, types(tchar(1), tdec(3, 2)), nil, tdec(15, 2)}, typing{name, types(tbit(1), tbin(3, 2)), nil, tbin(31, 2)},
			typing{name, types(tchar(1), tbit(1)), nil, tbin(31, 0)}, typing{name, types(tdec(2, 5), tdec(2, 5)), nil, tdec(2, 5)})
	}
	checkTypes(t, alike)
	var most []api.Type
	for range 19 {
		most = append(most, tdec(1, 0))
	}
	checkTypes(t, []typing{
		{"MAX", types(tdec(5, 2)), nil, tdec(5, 2)}, {"MIN", types(tchar(3)), nil, tdec(15, 0)}, {"MAX", types(tfloat(3)), nil, tfloat(3)},
		{"MAX", types(tdec(1, 0), tdec(3, 2), tdec(4, 0)), nil, tdec(6, 2)}, {"MIN", types(tdec(5, 0), tbin(3, 1), tfloat(2)), nil, tfloat(6)},
		{"MAX", append(most, tbin(3, 1)), nil, tbin(6, 1)},
	})
	for _, name := range []string{"ADD", "SUBTRACT", "MULTIPLY", "DIVIDE"} {
		checkTypes(t, []typing{
			{name, types(tdec(5, 2), tdec(3, 1)), counts(7), tdec(7, 0)}, {name, types(tdec(5, 2), tdec(3, 1)), counts(15, 31), tdec(15, 31)},
			{name, types(tdec(5, 2), tdec(3, 1)), counts(1, 0), tdec(1, 0)}, {name, types(tdec(5, 2), tbin(3, 1)), counts(31, 31), tbin(31, 31)},
			{name, types(tbin(5, 2), tdec(3, 1)), counts(16), tbin(16, 0)}, {name, types(tbin(5, 2), tbin(3, 1)), counts(9, 4), tbin(9, 4)},
			{name, types(tfloat(3), tdec(3, 1)), counts(7), tfloat(7)}, {name, types(tbin(3, 0), tfloat(3)), counts(15), tfloat(15)},
			{name, types(tfloat(3), tfloat(3)), counts(2, 32), tfloat(2)}, {name, types(tfloat(3), tfloat(3)), counts(2, -1), tfloat(2)},
			{name, types(tfloat(3), tfloat(3)), counts(2, mostDec), tfloat(2)}, {name, types(tfloat(3), tfloat(3)), counts(2, 5), tfloat(2)},
			{name, types(tchar(3), tchar(3)), counts(4, 3), tdec(4, 3)}, {name, types(tchar(3), tbit(3)), counts(4, 3), tbin(4, 3)},
			{name, types(tchar(3), tfloat(3)), counts(4, 3), tfloat(4)},
		})
	}
}

func TestTypesInABase(t *testing.T) {
	checkTypes(t, []typing{
		{"FIXED", types(tdec(5, 2)), nil, tdec(5, 2)}, {"FIXED", types(tbin(5, 2)), nil, tbin(5, 2)}, {"FIXED", types(tfloat(5)), nil, tdec(5, 0)},
		{"FIXED", types(tchar(5)), nil, tdec(15, 0)}, {"FIXED", types(tbit(5)), nil, tbin(31, 0)},
		{"FIXED", types(tdec(5, 2)), counts(3), tdec(3, 0)}, {"FIXED", types(tbin(5, 2)), counts(31), tbin(31, 0)}, {"FIXED", types(tfloat(5)), counts(9), tdec(9, 0)},
		{"FIXED", types(tdec(5, 2)), counts(3, 1), tdec(3, 1)}, {"FIXED", types(tbin(5, 2)), counts(30, 31), tbin(30, 31)}, {"FIXED", types(tfloat(5)), counts(15, 3), tdec(15, 3)},
		{"FIXED", types(tchar(5)), counts(3, 4), tdec(3, 4)}, {"FIXED", types(tbit(5)), counts(16, 4), tbin(16, 4)},

		{"BINARY", types(tdec(5, 0)), nil, tbin(18, 0)}, {"BINARY", types(tdec(5, 2)), nil, tbin(18, 7)}, {"BINARY", types(tbin(5, 2)), nil, tbin(5, 2)},
		{"BINARY", types(tfloat(5)), nil, tbin(18, 0)}, {"BINARY", types(tfloat(15)), nil, tbin(31, 0)}, {"BINARY", types(tchar(5)), nil, tbin(31, 0)}, {"BINARY", types(tbit(5)), nil, tbin(31, 0)},
		{"BINARY", types(tdec(5, 2)), counts(31), tbin(31, 0)}, {"BINARY", types(tdec(5, 2)), counts(3, 31), tbin(3, 31)}, {"BINARY", types(tfloat(5)), counts(1, 2), tbin(1, 2)},

		{"DECIMAL", types(tdec(5, 2)), nil, tdec(5, 2)}, {"DECIMAL", types(tbin(31, 2)), nil, tdec(11, 1)}, {"DECIMAL", types(tbin(5, 31)), nil, tdec(3, 10)},
		{"DECIMAL", types(tfloat(5)), nil, tdec(5, 0)}, {"DECIMAL", types(tchar(5)), nil, tdec(15, 0)}, {"DECIMAL", types(tbit(5)), nil, tdec(11, 0)},
		{"DECIMAL", types(tbin(5, 2)), counts(15), tdec(15, 0)}, {"DECIMAL", types(tbin(5, 2)), counts(3, 31), tdec(3, 31)}, {"DECIMAL", types(tfloat(5)), counts(1, 2), tdec(1, 2)},

		{"FLOAT", types(tdec(5, 2)), nil, tfloat(5)}, {"FLOAT", types(tbin(31, 2)), nil, tfloat(10)}, {"FLOAT", types(tbin(5, 0)), nil, tfloat(2)}, {"FLOAT", types(tfloat(5)), nil, tfloat(5)},
		{"FLOAT", types(tchar(5)), nil, tfloat(15)}, {"FLOAT", types(tbit(5)), nil, tfloat(10)},
		{"FLOAT", types(tdec(5, 2)), counts(15), tfloat(15)}, {"FLOAT", types(tbit(5)), counts(1), tfloat(1)}, {"FLOAT", types(tfloat(5)), counts(3), tfloat(3)},
	})
}

func TestTypesOfStrings(t *testing.T) {
	checkTypes(t, []typing{
		{"SUBSTR", types(tchar(5), tdec(1, 0)), nil, vary(tchar(5))}, {"SUBSTR", types(vary(tbit(5)), tdec(1, 0), tchar(3)), nil, vary(tbit(5))},
		{"SUBSTR", types(tdec(5, 2), tbit(1)), nil, vary(tchar(8))}, {"SUBSTR", types(tbin(31, 0), tfloat(1)), nil, vary(tchar(14))}, {"SUBSTR", types(tfloat(4), tdec(1, 0)), nil, vary(tchar(10))},
		{"REPEAT", types(tchar(5), tdec(1, 0)), nil, vary(tchar(250))}, {"COPY", types(vary(tbit(5)), tdec(1, 0)), nil, vary(tbit(250))}, {"COPY", types(tdec(1, 0), tdec(1, 0)), nil, vary(tchar(250))},
		{"REVERSE", types(tchar(5)), nil, tchar(5)}, {"REVERSE", types(vary(tbit(5))), nil, vary(tbit(5))}, {"REVERSE", types(tdec(2, 5)), nil, tchar(8)},
		{"STRING", types(tbit(5)), nil, tbit(5)}, {"STRING", types(vary(tchar(5))), nil, vary(tchar(5))}, {"STRING", types(tfloat(5)), nil, tchar(11)},
		{"TRANSLATE", types(tchar(5), tchar(9), tdec(1, 0)), nil, tchar(5)}, {"TRANSLATE", types(vary(tbit(5)), tbit(1), tbit(1)), nil, vary(tchar(5))}, {"TRANSLATE", types(tdec(9, 2), tbit(1), tbit(1)), nil, tchar(12)},
		{"BOOL", types(tbit(5), tbit(4), tbit(4)), nil, vary(tbit(5))}, {"BOOL", types(vary(tbit(3)), tchar(4), tdec(1, 0)), nil, vary(tbit(4))},
		{"BOOL", types(tdec(2, 0), tbin(3, 0), tchar(250)), nil, vary(tbit(7))}, {"BOOL", types(tdec(2, 5), tfloat(2), tbit(0)), nil, vary(tbit(7))}, {"BOOL", types(tdec(2, 2), tbin(3, 3), tbit(0)), nil, vary(tbit(0))},
		{"CHAR", types(tdec(5, 2)), nil, tchar(8)}, {"CHAR", types(tbin(31, 0)), nil, tchar(14)}, {"CHAR", types(tfloat(15)), nil, tchar(21)}, {"CHAR", types(vary(tchar(5))), nil, tchar(5)}, {"CHAR", types(tbit(250)), nil, tchar(250)},
		{"CHAR", types(tdec(5, 2)), counts(0), tchar(0)}, {"CHAR", types(vary(tbit(5))), counts(250), tchar(250)},
		{"BIT", types(tdec(5, 2)), nil, tbit(10)}, {"BIT", types(tbin(31, 30)), nil, tbit(1)}, {"BIT", types(tfloat(15)), nil, tbit(31)}, {"BIT", types(vary(tchar(5))), nil, tbit(5)}, {"BIT", types(tbit(250)), nil, tbit(250)},
		{"BIT", types(tdec(2, 2)), nil, tbit(0)}, {"BIT", types(tdec(5, 2)), counts(0), tbit(0)}, {"BIT", types(vary(tbit(5))), counts(250), tbit(250)},
		{"HIGH", nil, counts(5), tchar(5)}, {"HIGH", nil, counts(0), tchar(0)}, {"LOW", nil, counts(250), tchar(250)}, {"LOW", nil, counts(1), tchar(1)},
	})
	for _, a := range plainTypes() {
		for _, b := range plainTypes() {
			checkTypes(t, []typing{{"INDEX", types(a, b), nil, tbin(31, 0)}, {"VERIFY", types(a, b), nil, tbin(31, 0)}})
		}
	}
}

// Each p, q and n that must be known: of any kind, it counts as a FIXED BIN(31,0).
func TestKnownArguments(t *testing.T) {
	for _, three := range []typed{dec(3, 1, 0), dec(399, 3, 2), bin(3, 2, 0), bin(7, 3, 1), float(3, 0, 1), float(31, -1, 2), chars("3"), chars(" 3.9 "), bits("11"), upTo(9, bits("0011")), float(3, 0, 15),
		dec(1<<31+3, 10, 0)} { // too large: the low bits are taken
		for _, x := range []typing{
			{"ROUND", types(tdec(5, 4), three.of), nil, tdec(5, 3)}, {"ADD", types(tdec(1, 0), tdec(1, 0), three.of), nil, tdec(3, 0)},
			{"FLOAT", types(tdec(1, 0), three.of), nil, tfloat(3)}, {"CHAR", types(tdec(1, 0), three.of), nil, tchar(3)}, {"BIT", types(tdec(1, 0), three.of), nil, tbit(3)},
			{"HIGH", types(three.of), nil, tchar(3)}, {"LOW", types(three.of), nil, tchar(3)}, {"FIXED", types(tdec(1, 0), three.of), nil, tdec(3, 0)},
		} {
			known := append(make([]api.Value, len(x.types)-1), three.Value)
			if of, e := built.Result(x.name, x.types, known); of != x.want || e != api.OK {
				t.Errorf("Result(%q, %+v, %+v) = %+v, %d; want %+v", x.name, x.types, known, of, e, x.want)
			}
		}
		known := []api.Value{{}, {}, vdec(9, 0), three.Value}
		if of, e := built.Result("DIVIDE", types(tdec(1, 0), tbin(1, 0), tdec(1, 0), three.of), known); of != tbin(9, 3) || e != api.OK {
			t.Errorf("Result with q %+v = %+v, %d", three, of, e)
		}
	}
	// What can't be converted counts as 0.
	if of, e := built.Result("ROUND", types(tdec(5, 4), tchar(1)), []api.Value{{}, text("X")}); of != tdec(2, 0) || e != api.OK {
		t.Errorf("Result = %+v, %d", of, e)
	}
}
