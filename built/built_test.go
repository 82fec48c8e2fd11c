package built_test

import (
	"math"
	"slices"
	"strings"
	"testing"

	"ironbark/api"
	"ironbark/built"
)

func tbin(p, q int) api.Type { return api.Type{Kind: api.TBin, P: p, Q: q} }

func tdec(p, q int) api.Type { return api.Type{Kind: api.TDec, P: p, Q: q} }

func tfloat(p int) api.Type { return api.Type{Kind: api.TFloat, P: p} }

func tchar(n int) api.Type { return api.Type{Kind: api.TChar, N: n} }

func tbit(n int) api.Type { return api.Type{Kind: api.TBit, N: n} }

func vary(t api.Type) api.Type {
	t.Vary = true
	return t
}

func vbin(n, q int) api.Value { return api.Value{Kind: api.TBin, N: n, Q: q} }

func vdec(n, q int) api.Value { return api.Value{Kind: api.TDec, N: n, Q: q} }

func vfloat(n, q int) api.Value { return api.Value{Kind: api.TFloat, N: n, Q: q} }

func text(s string) api.Value { return api.Value{Kind: api.TChar, S: s} }

func digits(s string) api.Value { return api.Value{Kind: api.TBit, S: s} }

const (
	mostDec = 999_999_999_999_999
	mostBin = 1<<31 - 1
)

func many(s string, n int) string { return strings.Repeat(s, n) }

// typed is a value with its type.
type typed struct {
	api.Value
	of api.Type
}

func bin(n, p, q int) typed { return typed{vbin(n, q), tbin(p, q)} }

func dec(n, p, q int) typed { return typed{vdec(n, q), tdec(p, q)} }

func float(n, q, p int) typed { return typed{vfloat(n, q), tfloat(p)} }

func chars(s string) typed { return typed{text(s), tchar(len(s))} }

func bits(s string) typed { return typed{digits(s), tbit(len(s))} }

// upTo is a varying string with room for more.
func upTo(n int, v typed) typed {
	v.of.N = n
	return typed{v.Value, vary(v.of)}
}

// whole is a plain number, as arguments are often written.
func whole(n int) typed { return dec(n, 15, 0) }

func args(l ...typed) []typed { return l }

// parted is the values and the types of arguments.
func parted(l []typed) (values []api.Value, types []api.Type) {
	for _, v := range l {
		values = append(values, v.Value)
		types = append(types, v.of)
	}
	return values, types
}

// cond is a condition that has no place, or none.
func cond(number int) api.Raise { return api.Raise{Cond: number} }

// wrong is a conversion that is wrong at a place of its source.
func wrong(source string, at int) api.Raise {
	return api.Raise{Cond: api.CConversion, Source: source, At: at}
}

// call is a function's call: the type that Result tells of its arguments, all known, and what Call tells of that type.
type call struct {
	name  string
	args  []typed
	of    api.Type
	value api.Value
	raise api.Raise
}

func checkCalls(t *testing.T, l []call) {
	t.Helper()
	for _, x := range l {
		values, types := parted(x.args)
		of, e := built.Result(x.name, types, values)
		if of != x.of || e != api.OK {
			t.Errorf("Result(%q, %+v) = %+v, %d; want %+v", x.name, x.args, of, e, x.of)
			continue
		}
		checkTold(t, told{x.name, x.args, of, x.value, x.raise})
	}
}

// told is what Call tells of a type that Result need not have told.
type told struct {
	name  string
	args  []typed
	of    api.Type
	value api.Value
	raise api.Raise
}

func checkTold(t *testing.T, l ...told) {
	t.Helper()
	for _, x := range l {
		values, types := parted(x.args)
		if v, r, e := built.Call(x.name, values, types, x.of); v != x.value || r != x.raise || e != api.OK {
			t.Errorf("Call(%q, %+v, %+v) = %+v, %+v, %d; want %+v, %+v", x.name, x.args, x.of, v, r, e, x.value, x.raise)
		}
	}
}

// function is what the chapter says of a function's arguments: how many there are, and which ones must be known: p, q and n of types.
type function struct {
	name        string
	least, most int
	known       []int
}

func functions() []function {
	return []function{
		{"ABS", 1, 1, nil}, {"ADD", 3, 4, []int{2, 3}}, {"BINARY", 1, 3, []int{1, 2}}, {"BIT", 1, 2, []int{1}},
		{"BOOL", 3, 3, nil}, {"CEIL", 1, 1, nil}, {"CHAR", 1, 2, []int{1}}, {"COPY", 2, 2, nil},
		{"DECIMAL", 1, 3, []int{1, 2}}, {"DIVIDE", 3, 4, []int{2, 3}}, {"FIXED", 1, 3, []int{1, 2}},
		{"FLOAT", 1, 2, []int{1}}, {"FLOOR", 1, 1, nil}, {"HIGH", 1, 1, []int{0}}, {"INDEX", 2, 2, nil},
		{"LENGTH", 1, 1, nil}, {"LOW", 1, 1, []int{0}}, {"MAX", 1, 20, nil}, {"MIN", 1, 20, nil},
		{"MOD", 2, 2, nil}, {"MULTIPLY", 3, 4, []int{2, 3}}, {"REPEAT", 2, 2, nil}, {"REVERSE", 1, 1, nil},
		{"ROUND", 2, 2, []int{1}}, {"SIGN", 1, 1, nil}, {"STRING", 1, 1, nil}, {"SUBSTR", 2, 3, nil},
		{"SUBTRACT", 3, 4, []int{2, 3}}, {"TRANSLATE", 3, 3, nil}, {"TRUNC", 1, 1, nil}, {"VERIFY", 2, 2, nil},
	}
}

// wants reports whether an argument must be known.
func (f function) wants(at int) bool { return slices.Contains(f.known, at) }

func TestNames(t *testing.T) {
	var want []string
	for _, f := range functions() {
		want = append(want, f.name)
	}
	got := built.Names()
	if !slices.Equal(got, want) || !slices.IsSorted(got) {
		t.Errorf("Names() = %v", got)
	}
	clear(got)
	if again := built.Names(); !slices.Equal(again, want) {
		t.Errorf("Names() = %v behind one that was changed", again)
	}
}

func TestIs(t *testing.T) {
	for _, f := range functions() {
		if !built.Is(f.name) {
			t.Errorf("Is(%q) is false", f.name)
		}
		for _, other := range []string{strings.ToLower(f.name), f.name + " ", " " + f.name, f.name + "S", f.name[1:], f.name[:len(f.name)-1], f.name + f.name} {
			if built.Is(other) {
				t.Errorf("Is(%q)", other)
			}
		}
	}
	for _, other := range otherNames() {
		if built.Is(other) {
			t.Errorf("Is(%q)", other)
		}
	}
}

// otherNames are of no function.
func otherNames() []string {
	return []string{"", " ", "X", "abs", "Abs", "ABS(", "DATE", "HBOUND", "NULL", "BIN", "DEC", "CHARACTER", "TALLY", "SEARCH", "TRIM", "AND", "XOR", "SQRT", "\x00", "ÄBS", many("A", 1000)}
}

func TestArguments(t *testing.T) {
	for _, f := range functions() {
		if least, most, e := built.Arguments(f.name); least != f.least || most != f.most || e != api.OK {
			t.Errorf("Arguments(%q) = %d, %d, %d", f.name, least, most, e)
		}
	}
	for _, other := range otherNames() {
		if least, most, e := built.Arguments(other); least != 0 || most != 0 || e != api.ErrName {
			t.Errorf("Arguments(%q) = %d, %d, %d", other, least, most, e)
		}
	}
}

// The chapter's examples.
func TestExamples(t *testing.T) {
	checkCalls(t, []call{
		{"MOD", args(dec(-7, 1, 0), dec(3, 1, 0)), tdec(1, 0), vdec(2, 0), cond(0)},
		{"ROUND", args(dec(125, 3, 2), dec(1, 1, 0)), tdec(3, 1), vdec(13, 1), cond(0)},
		{"SUBSTR", args(chars("ABCDE"), whole(2), whole(3)), vary(tchar(5)), text("BCD"), cond(0)},
		{"INDEX", args(chars("ABC"), chars("C")), tbin(31, 0), vbin(3, 0), cond(0)},
		{"BOOL", args(bits("0011"), bits("0101"), bits("0110")), vary(tbit(4)), digits("0110"), cond(0)},
	})
}

// What is known is not asked where it is not wanted: the same arguments tell the same type without it.
func TestKnownIsNotNeeded(t *testing.T) {
	for _, x := range []struct {
		name string
		args []typed
	}{
		{"ABS", args(dec(-1, 3, 1))}, {"SUBSTR", args(chars("ABC"), whole(2), whole(1))}, {"SUBSTR", args(chars("ABC"), whole(2))},
		{"REPEAT", args(chars("ABC"), whole(2))}, {"COPY", args(chars("ABC"), whole(2))}, {"MAX", args(whole(1), bin(3, 2, 1), chars("A"))},
		{"CHAR", args(dec(5, 3, 1))}, {"BIT", args(dec(5, 3, 1))}, {"FIXED", args(float(5, 0, 3))}, {"FLOAT", args(bin(5, 3, 0))},
		{"BOOL", args(bits("1"), bits("0"), bits("0110"))}, {"TRANSLATE", args(chars("ABC"), chars("X"), chars("B"))},
	} {
		values, types := parted(x.args)
		want, e := built.Result(x.name, types, values)
		for n := range values {
			if of, e2 := built.Result(x.name, types, values[:n]); of != want || e2 != api.OK || e != api.OK {
				t.Errorf("Result(%q, %+v, %d known) = %+v, %d; want %+v, %d", x.name, types, n, of, e2, want, e)
			}
		}
	}
}

// A value of Kind 0 is not known, whatever else it has.
func TestNotKnown(t *testing.T) {
	for _, none := range []api.Value{{}, {N: 1}, {Q: math.MinInt}, {S: "1"}} {
		if of, e := built.Result("ROUND", []api.Type{tdec(3, 2), tdec(1, 0)}, []api.Value{none, vdec(1, 0)}); of != tdec(3, 1) || e != api.OK {
			t.Errorf("Result with %+v = %+v, %d", none, of, e)
		}
		if of, e := built.Result("ROUND", []api.Type{tdec(3, 2), tdec(1, 0)}, []api.Value{vdec(125, 2), none}); of != (api.Type{}) || e != api.ErrState {
			t.Errorf("Result with %+v = %+v, %d", none, of, e)
		}
	}
}
