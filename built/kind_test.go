package built_test

import (
	"strconv"
	"testing"

	"ironbark/api"
	"ironbark/built"
	"ironbark/digit"
)

// countingOf is the values of a type that count a number as they are written, if it has any.
func countingOf(n int, of api.Type) []api.Value {
	var l []api.Value
	switch of.Kind {
	case api.TBin:
		l = append(l, vbin(n<<of.Q, of.Q))
	case api.TDec:
		if of.Q < api.MaxDec {
			l = append(l, vdec(n*tens(of.Q), of.Q))
		}
	case api.TFloat:
		l = append(l, vfloat(n, 0))
	case api.TChar:
		s := strconv.Itoa(n)
		l = append(l, text(s), text(s+many(" ", max(0, of.N-len(s)))))
	case api.TBit:
		s := strconv.FormatInt(int64(n), 2)
		l = append(l, digits(s), digits(many("0", max(0, of.N-len(s)))+s))
	}
	l = append(l, api.Value{Kind: of.Kind, Q: of.Q, S: ""})
	var right []api.Value
	for _, v := range l {
		if digit.Has(of, v) {
			right = append(right, v)
		}
	}
	return right
}

// someKindOf is the kind of a type that Result tells if p, q and n are some of the values that are handed in; 0 if it tells none.
func someKindOf(f function, types []api.Type, values func(of api.Type) []api.Value) int {
	known := make([]api.Value, len(types))
	var kindFrom func(at int) int
	kindFrom = func(at int) int {
		if at == len(f.known) || f.known[at] >= len(types) {
			of, _ := built.Result(f.name, types, known)
			return of.Kind
		}
		for _, v := range values(types[f.known[at]]) {
			known[f.known[at]] = v
			if kind := kindFrom(at + 1); kind != 0 {
				return kind
			}
		}
		return 0
	}
	return kindFrom(0)
}

// allOf is all values of a small type: of numbers, of strings (of characters without those of which a number has none).
func allOf(of api.Type) []api.Value {
	var l []api.Value
	switch of.Kind {
	case api.TBin:
		for n := -1<<of.P + 1; n < 1<<of.P; n++ {
			l = append(l, vbin(n, of.Q))
		}
	case api.TDec:
		for n := -tens(of.P) + 1; n < tens(of.P); n++ {
			l = append(l, vdec(n, of.Q))
		}
	case api.TFloat:
		for n := -tens(of.P) + 1; n < tens(of.P); n++ {
			for q := -api.MaxExp - of.P; q <= api.MaxExp; q++ {
				l = append(l, vfloat(n, q))
			}
		}
	default:
		for _, s := range textsOf(map[int]string{api.TChar: " 0123456789.+-EBX", api.TBit: "01"}[of.Kind], of.N) {
			l = append(l, api.Value{Kind: of.Kind, S: s})
		}
	}
	var right []api.Value
	for _, v := range l {
		if digit.Has(of, v) {
			right = append(right, v)
		}
	}
	return right
}

// textsOf is all texts of some bytes up to a length.
func textsOf(bytes string, length int) []string {
	l := []string{""}
	for from := 0; length > 0; length-- {
		end := len(l)
		for ; from < end; from++ {
			for _, b := range bytes {
				l = append(l, l[from]+string(b))
			}
		}
	}
	return l
}

// smallTypes are those of which all values are tried.
func smallTypes() []api.Type {
	var l []api.Type
	for _, q := range []int{0, 1, 2, 3, 4, 5, 6, api.MaxScale} {
		for p := 1; p <= 5; p++ {
			l = append(l, tbin(p, q))
		}
		l = append(l, tdec(1, q), tdec(2, q))
	}
	l = append(l, tfloat(1))
	for n := range 6 {
		l = append(l, tbit(n), vary(tbit(n)))
	}
	for n := range 3 {
		l = append(l, tchar(n), vary(tchar(n)))
	}
	return l
}

// checkKind checks that Call takes just the types of a kind; of the kind 0 none.
func checkKind(t *testing.T, name string, types []api.Type, kind int) {
	t.Helper()
	var values []api.Value
	for _, of := range types {
		zero, e := digit.Zero(of)
		if e != api.OK {
			t.Fatalf("Zero(%+v) = %d", of, e)
		}
		values = append(values, zero)
	}
	for _, of := range []api.Type{tbin(1, 0), tdec(1, 0), tfloat(1), tchar(1), tbit(1)} {
		if of.Kind != kind {
			refusesCall(t, name, values, types, of, api.ErrKind)
		} else if v, _, e := built.Call(name, values, types, of); !digit.Has(of, v) || e != api.OK {
			t.Errorf("Call(%q, %+v, %+v) = %+v, %d", name, types, of, v, e)
		}
	}
}

// Each function with each small type of its p, q or n, of which all values are tried: Call takes the kind that Result tells of one of them, or no type.
func TestKindsOfAllKnown(t *testing.T) {
	seen := map[bool]int{}
	for _, f := range functions() {
		for n := f.least; n <= f.most && len(f.known) > 0; n++ {
			for _, x := range []api.Type{tdec(3, 1), tbin(3, 1), tfloat(3)} {
				for _, small := range smallTypes() {
					types := []api.Type{x, x, x, x}[:n]
					for nth, at := range f.known {
						if at < n {
							types[at] = [...]api.Type{small, tchar(0)}[nth]
						}
					}
					kind := someKindOf(f, types, allOf)
					checkKind(t, f.name, types, kind)
					seen[kind != 0]++
				}
			}
		}
	}
	if seen[true] < 2000 || seen[false] < 1000 {
		t.Errorf("%v", seen)
	}
}

// Precisions of the greatest types, and of types of two p and q that are not alike.
func TestKindsOfGreatKnown(t *testing.T) {
	x := tdec(3, 1)
	for _, p := range []api.Type{tbin(31, 0), tbin(31, 30), tdec(15, 0), tdec(15, 14), tfloat(15), tchar(250), vary(tchar(250)), tbit(250), vary(tbit(250))} {
		checkKind(t, "FLOAT", types(x, p), api.TFloat)
		checkKind(t, "ROUND", types(tfloat(3), p), api.TFloat)
		checkKind(t, "BINARY", types(x, p, vary(tchar(0))), api.TBin)
		checkKind(t, "DIVIDE", types(x, x, p, tdec(9, 9)), api.TDec)
	}
	for _, p := range []api.Type{tbin(31, 31), tbin(4, 9), tbin(1, 1), tdec(15, 15), tdec(15, 31), tdec(1, 1), tchar(0), vary(tchar(0)), tbit(0), vary(tbit(0))} {
		checkKind(t, "FLOAT", types(x, p), 0)
		checkKind(t, "ROUND", types(tfloat(3), p), 0)
		checkKind(t, "BINARY", types(x, p, tdec(1, 0)), 0)
		checkKind(t, "DIVIDE", types(x, x, p, tdec(1, 0)), 0)
		// 0 is a scale and a length, too.
		checkKind(t, "FIXED", types(x, tdec(1, 0), p), api.TDec)
		checkKind(t, "ADD", types(x, tbin(1, 0), tdec(1, 0), p), api.TBin)
		checkKind(t, "ROUND", types(x, p), api.TDec)
		checkKind(t, "CHAR", types(x, p), api.TChar)
		checkKind(t, "BIT", types(x, p), api.TBit)
		checkKind(t, "HIGH", types(p), api.TChar)
		checkKind(t, "LOW", types(p), api.TChar)
	}
}

// A type of the result that is not valid is asked ahead of its kind, an argument's kind ahead of it.
func TestNoKindAmongErrors(t *testing.T) {
	values, argTypes := []api.Value{vdec(1, 0), text("")}, types(tdec(1, 0), tchar(0))
	refusesCall(t, "FLOAT", values, argTypes, tfloat(0), api.ErrType)
	refusesCall(t, "FLOAT", values, argTypes, tfloat(1), api.ErrKind)
	refusesCall(t, "FLOAT", []api.Value{vdec(10, 0), text("")}, argTypes, tfloat(1), api.ErrInvalid)
}
