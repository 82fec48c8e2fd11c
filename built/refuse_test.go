package built_test

import (
	"math"
	"slices"
	"testing"

	"ironbark/api"
	"ironbark/built"
)

// wrongTypes are not valid, each in another way.
func wrongTypes() []api.Type {
	return []api.Type{
		{}, {Kind: -1}, {Kind: 10}, {Kind: math.MaxInt}, {Kind: math.MinInt},
		tbin(0, 0), tbin(32, 0), tbin(1, -1), tbin(1, 32), {Kind: api.TBin, P: 1, N: 1}, {Kind: api.TBin, P: 1, Vary: true},
		tdec(0, 0), tdec(16, 0), tdec(1, -1), tdec(1, 32), {Kind: api.TDec, P: 1, Pic: "9"},
		tfloat(0), tfloat(16), {Kind: api.TFloat, P: 1, Q: 1},
		tchar(-1), tchar(251), {Kind: api.TChar, P: 1}, tbit(-1), tbit(251), {Kind: api.TBit, N: 1, Q: 1},
		{Kind: api.TPic}, {Kind: api.TPtr, P: 1}, {Kind: api.TLabel, N: 1}, {Kind: api.TEntry, Vary: true},
	}
}

// wrongValues are of none of the types here: they are not valid, or of another type.
func wrongValues() []typed {
	return []typed{
		{vdec(100, 0), tdec(2, 0)}, {vdec(1, 1), tdec(2, 0)}, {vdec(1, 0), tbin(2, 0)}, {vbin(4, 0), tbin(2, 0)}, {vbin(1<<31, 0), tbin(31, 0)},
		{vfloat(12, 0), tfloat(1)}, {vfloat(10, 0), tfloat(2)}, {vfloat(1, 76), tfloat(2)}, {vfloat(0, 1), tfloat(2)}, {vdec(1, 0), tfloat(2)},
		{text("ab"), tchar(3)}, {text("ab"), tchar(1)}, {text("ab"), vary(tchar(1))}, {digits("1"), tchar(1)}, {text("1"), tbit(1)},
		{digits("2"), tbit(1)}, {digits("1"), tbit(2)}, {digits("11"), vary(tbit(1))}, {digits(" "), tbit(1)},
		{text("\n"), tchar(1)}, {text("a\x1f"), tchar(2)}, {text("\x7f"), vary(tchar(9))}, {text("\x80"), tchar(1)}, {text("ö"), tchar(2)}, {text("\x00"), tchar(1)},
		{api.Value{Kind: api.TChar, S: "a", N: 1}, tchar(1)}, {api.Value{Kind: api.TDec, S: "a"}, tdec(1, 0)}, {api.Value{Kind: api.TBit, Q: 1}, tbit(0)},
		{api.Value{Kind: -1}, tdec(1, 0)}, {api.Value{Kind: 10}, tchar(1)}, {api.Value{Kind: math.MaxInt}, tfloat(1)},
		{api.Value{Kind: api.TPtr, N: -1}, api.Type{Kind: api.TPtr}}, {text(""), api.Type{Kind: api.TPtr}}, {api.Value{Kind: api.TPic, N: 1}, api.Type{Kind: api.TPic, Pic: "9"}},
	}
}

// otherValues are of their types, which are of no numbers and no strings.
func otherValues() []typed {
	return []typed{
		{api.Value{Kind: api.TPic, S: "12"}, api.Type{Kind: api.TPic, Pic: "99"}},
		{api.Value{Kind: api.TPic, S: "\n\x80"}, api.Type{Kind: api.TPic, Pic: "99"}},
		{api.Value{Kind: api.TPtr, N: 7}, api.Type{Kind: api.TPtr}},
		{api.Value{Kind: api.TLabel, N: 1, Q: 2}, api.Type{Kind: api.TLabel}},
		{api.Value{Kind: api.TEntry}, api.Type{Kind: api.TEntry}},
	}
}

// rightArguments are so many that each function takes.
func rightArguments(n int) []typed {
	l := args()
	for range n {
		l = append(l, dec(1, 1, 0))
	}
	return l
}

func refusesResult(t *testing.T, name string, types []api.Type, known []api.Value, want api.Errno) {
	t.Helper()
	if of, e := built.Result(name, types, known); of != (api.Type{}) || e != want {
		t.Errorf("Result(%q, %+v, %+v) = %+v, %d; want %d", name, types, known, of, e, want)
	}
}

func refusesCall(t *testing.T, name string, values []api.Value, types []api.Type, of api.Type, want api.Errno) {
	t.Helper()
	if v, r, e := built.Call(name, values, types, of); v != (api.Value{}) || r != (api.Raise{}) || e != want {
		t.Errorf("Call(%q, %+v, %+v, %+v) = %+v, %+v, %d; want %d", name, values, types, of, v, r, e, want)
	}
}

// fault is an error, and what brings it into right arguments.
type fault struct {
	e    api.Errno
	into func(a *asked)
}

// asked is all that Result and Call are asked with.
type asked struct {
	name   string
	values []api.Value
	types  []api.Type
	of     api.Type
}

func askedOf(f function, n int) asked {
	values, types := parted(rightArguments(n))
	of, _ := built.Result(f.name, types, values)
	return asked{f.name, values, types, of}
}

func (a asked) copied() asked {
	return asked{a.name, slices.Clone(a.values), slices.Clone(a.types), a.of}
}

// faultsOfArguments are those that Result and Call have in common, in their order; at is the argument that is wrong.
func faultsOfArguments(at int) []fault {
	return []fault{
		{api.ErrName, func(a *asked) { a.name += "X" }},
		{api.ErrType, func(a *asked) { a.types[at] = tdec(16, 0) }},
		{api.ErrInvalid, func(a *asked) { a.values[at] = vdec(10, 0) }},
		{api.ErrKind, func(a *asked) { a.values[at], a.types[at] = otherValues()[2].Value, otherValues()[2].of }},
	}
}

// Each error comes ahead of those behind it, at whatever argument they are.
func TestOrderOfErrors(t *testing.T) {
	for _, f := range functions() {
		for n := f.least; n <= min(f.most, 5); n++ {
			for at := range n {
				for behind := range n {
					checkOrder(t, askedOf(f, n), faultsOfArguments(at), faultsOfArguments(behind))
				}
			}
		}
	}
}

// checkOrder tries each fault with each one behind it, which is there first.
func checkOrder(t *testing.T, right asked, first, behind []fault) {
	t.Helper()
	for i, f := range first {
		for j := i; j < len(behind); j++ {
			a := right.copied()
			behind[j].into(&a)
			f.into(&a)
			refusesResult(t, a.name, a.types, a.values, f.e)
			for _, of := range []api.Type{a.of, {}, {Kind: api.TPtr}} {
				refusesCall(t, a.name, a.values, a.types, of, f.e)
			}
		}
	}
}

func TestNoSuchFunction(t *testing.T) {
	for _, name := range otherNames() {
		refusesResult(t, name, nil, nil, api.ErrName)
		refusesResult(t, name, []api.Type{{}}, []api.Value{{}, {}, {}}, api.ErrName)
		refusesCall(t, name, nil, nil, api.Type{}, api.ErrName)
		refusesCall(t, name, []api.Value{{}}, []api.Type{{}, {}}, tdec(1, 0), api.ErrName)
	}
}

// How many arguments there are is asked ahead of what they are.
func TestSizes(t *testing.T) {
	for _, f := range functions() {
		for n := range 25 {
			values, types := parted(rightArguments(n))
			if n < f.least || n > f.most {
				refusesResult(t, f.name, types, values, api.ErrSize)
				refusesResult(t, f.name, types, nil, api.ErrSize)
				refusesResult(t, f.name, make([]api.Type, n), make([]api.Value, n), api.ErrSize)
				refusesCall(t, f.name, values, types, tdec(1, 0), api.ErrSize)
				refusesCall(t, f.name, make([]api.Value, n), make([]api.Type, n), api.Type{}, api.ErrSize)
				continue
			}
			for _, more := range []int{1, 2, 30} {
				refusesResult(t, f.name, types, append(slices.Clone(values), make([]api.Value, more)...), api.ErrSize)
				refusesResult(t, f.name, make([]api.Type, n), make([]api.Value, n+more), api.ErrSize)
				refusesCall(t, f.name, append(slices.Clone(values), make([]api.Value, more)...), types, api.Type{}, api.ErrSize)
				refusesCall(t, f.name, values, append(slices.Clone(types), make([]api.Type, more)...), api.Type{}, api.ErrSize)
			}
			for fewer := range n {
				refusesCall(t, f.name, values[:fewer], types, api.Type{}, api.ErrSize)
				refusesCall(t, f.name, values, types[:fewer], api.Type{}, api.ErrSize)
			}
		}
	}
}

// Each argument of each function is asked for its type, then for its value, then for its kind.
func TestEachArgument(t *testing.T) {
	for _, f := range functions() {
		for at := range min(f.most, 5) {
			right := askedOf(f, max(f.least, at+1))
			for _, of := range wrongTypes() {
				a := right.copied()
				a.types[at] = of
				refusesResult(t, a.name, a.types, a.values, api.ErrType)
				refusesResult(t, a.name, a.types, nil, api.ErrType)
				refusesCall(t, a.name, a.values, a.types, a.of, api.ErrType)
			}
			for _, v := range wrongValues() {
				a := right.copied()
				a.values[at], a.types[at] = v.Value, v.of
				refusesResult(t, a.name, a.types, a.values, api.ErrInvalid)
				refusesResult(t, a.name, a.types, append(make([]api.Value, at), v.Value), api.ErrInvalid) // ahead of what is not known
				refusesCall(t, a.name, a.values, a.types, a.of, api.ErrInvalid)
			}
			for _, v := range otherValues() {
				a := right.copied()
				a.values[at], a.types[at] = v.Value, v.of
				refusesResult(t, a.name, a.types, a.values, api.ErrKind)
				refusesResult(t, a.name, a.types, nil, api.ErrKind)
				refusesCall(t, a.name, a.values, a.types, a.of, api.ErrKind)
			}
			a := right.copied()
			a.values[at] = api.Value{}
			refusesCall(t, a.name, a.values, a.types, a.of, api.ErrInvalid) // which Result does not know
		}
	}
}

// What must be known and is not: ahead of what is out of range, behind all else.
func TestNotKnownErrors(t *testing.T) {
	for _, f := range functions() {
		for n := f.least; n <= min(f.most, 5); n++ {
			right := askedOf(f, n)
			for at := range n {
				a := right.copied()
				a.values[at] = api.Value{}
				if !f.wants(at) {
					if of, e := built.Result(a.name, a.types, a.values); of != right.of || e != api.OK {
						t.Errorf("Result(%q, %+v, %+v) = %+v, %d", a.name, a.types, a.values, of, e)
					}
					continue
				}
				refusesResult(t, a.name, a.types, a.values, api.ErrState)
				refusesResult(t, a.name, a.types, a.values[:at], api.ErrState)
				refusesResult(t, a.name, a.types, nil, api.ErrState)
				for _, other := range f.known {
					if other >= n || other == at {
						continue
					}
					b := a.copied()
					b.values[other], b.types[other] = vdec(99, 0), tdec(2, 0)
					refusesResult(t, b.name, b.types, b.values, api.ErrState)
				}
			}
		}
	}
}

// A scale that is not known is refused even where it does not count.
func TestScaleOfFloats(t *testing.T) {
	for _, name := range []string{"ADD", "SUBTRACT", "MULTIPLY", "DIVIDE"} {
		l := types(tfloat(3), tdec(1, 0), tdec(2, 0), tdec(2, 0))
		refusesResult(t, name, l, []api.Value{{}, {}, vdec(5, 0)}, api.ErrState)
		refusesResult(t, name, l, []api.Value{{}, {}, vdec(99, 0), {}}, api.ErrState)
		refusesResult(t, name, l, []api.Value{{}, {}, vdec(99, 0), vdec(0, 0)}, api.ErrRange)
	}
}

// Numbers of which no valid type comes.
func TestRanges(t *testing.T) {
	refuses := func(name string, types []api.Type, l ...int) {
		t.Helper()
		if of, e := resultOf(name, types, l); of != (api.Type{}) || e != api.ErrRange {
			t.Errorf("Result(%q, %+v, %v) = %+v, %d", name, types, l, of, e)
		}
	}
	d, b, f := tdec(5, 2), tbin(5, 2), tfloat(5)
	for _, far := range []int{-mostBin, -1000, -1, 251, 1000, mostBin} {
		for _, x := range []api.Type{d, b, f, tchar(3), tbit(3)} {
			refuses("ROUND", types(x), far)
			refuses("CHAR", types(x), far)
			refuses("BIT", types(x), far)
			refuses("FLOAT", types(x), far)
			for _, name := range []string{"FIXED", "BINARY", "DECIMAL"} {
				refuses(name, types(x), far)
				refuses(name, types(x), far, 0)
				refuses(name, types(x), 1, far)
			}
			for _, name := range []string{"ADD", "SUBTRACT", "MULTIPLY", "DIVIDE"} {
				refuses(name, types(x, d), far)
				refuses(name, types(b, x), far, 0)
			}
		}
		refuses("HIGH", nil, far)
		refuses("LOW", nil, far)
	}
	refuses("ROUND", types(d), 32)
	refuses("ROUND", types(b), 32)
	refuses("ROUND", types(f), 0)
	refuses("ROUND", types(f), 16)
	for _, x := range []struct {
		name string
		with []api.Type
		most int
		max  int // of the scale; -1: there is none
	}{
		{"FIXED", types(d), 15, 31}, {"FIXED", types(b), 31, 31}, {"FIXED", types(f), 15, 31}, {"FIXED", types(tchar(3)), 15, 31}, {"FIXED", types(tbit(3)), 31, 31},
		{"BINARY", types(d), 31, 31}, {"BINARY", types(f), 31, 31}, {"DECIMAL", types(b), 15, 31}, {"DECIMAL", types(f), 15, 31}, {"FLOAT", types(b), 15, -1}, {"FLOAT", types(d), 15, -1},
		{"ADD", types(d, d), 15, 31}, {"SUBTRACT", types(d, b), 31, 31}, {"MULTIPLY", types(b, tchar(3)), 31, 31}, {"DIVIDE", types(tchar(3), d), 15, 31},
		{"ADD", types(f, d), 15, -1}, {"DIVIDE", types(b, f), 15, -1},
	} {
		refuses(x.name, x.with, 0)
		refuses(x.name, x.with, x.most+1)
		if _, e := resultOf(x.name, x.with, counts(x.most)); e != api.OK {
			t.Errorf("Result(%q, %+v, %d) = %d", x.name, x.with, x.most, e)
		}
		if x.max >= 0 {
			refuses(x.name, x.with, 1, x.max+1)
			refuses(x.name, x.with, 1, -1)
			if _, e := resultOf(x.name, x.with, counts(1, x.max)); e != api.OK {
				t.Errorf("Result(%q, %+v, 1, %d) = %d", x.name, x.with, x.max, e)
			}
		}
	}
}

// Call asks for the type of the result last: that it is valid, then that it is of the kind that the function's results have.
func TestTypeOfTheResult(t *testing.T) {
	for _, f := range functions() {
		for n := f.least; n <= min(f.most, 5); n++ {
			right := askedOf(f, n)
			for _, of := range wrongTypes() {
				refusesCall(t, f.name, right.values, right.types, of, api.ErrType)
			}
			for _, of := range append(plainTypes(), otherValues()[0].of, otherValues()[2].of, otherValues()[3].of, otherValues()[4].of) {
				if of.Kind != right.of.Kind {
					refusesCall(t, f.name, right.values, right.types, of, api.ErrKind)
				} else if _, _, e := built.Call(f.name, right.values, right.types, of); e != api.OK {
					t.Errorf("Call(%q, %+v, %+v) = %d", f.name, right.types, of, e)
				}
			}
		}
	}
}

// The kind of a result hangs on the arguments' types alone.
func TestKindsOfResults(t *testing.T) {
	for _, x := range []struct {
		name string
		args []typed
		kind int
	}{
		{"ABS", args(bin(1, 1, 0)), api.TBin}, {"ABS", args(float(1, 0, 1)), api.TFloat}, {"ABS", args(bits("1")), api.TBin}, {"ABS", args(chars("1")), api.TDec},
		{"FLOOR", args(float(1, 0, 1)), api.TFloat}, {"ROUND", args(float(1, 0, 1), whole(99)), api.TFloat}, {"ROUND", args(bits("1"), whole(-1)), api.TBin},
		{"MAX", args(whole(1), whole(2), bits("1")), api.TBin}, {"MOD", args(bits("1"), float(1, 0, 1)), api.TFloat},
		{"ADD", args(whole(1), bits("1"), whole(0)), api.TBin}, {"ADD", args(whole(1), float(1, 0, 1), whole(0), whole(-1)), api.TFloat},
		{"FIXED", args(bits("1"), whole(0)), api.TBin}, {"FIXED", args(float(1, 0, 1), whole(0)), api.TDec}, {"BINARY", args(whole(1), whole(99)), api.TBin},
		{"DECIMAL", args(bits("1")), api.TDec}, {"FLOAT", args(bits("1"), whole(99)), api.TFloat},
		{"SIGN", args(chars("1")), api.TBin}, {"LENGTH", args(chars("1")), api.TBin}, {"INDEX", args(bits("1"), bits("1")), api.TBin}, {"VERIFY", args(bits("1"), bits("1")), api.TBin},
		{"SUBSTR", args(bits("1"), whole(1)), api.TBit}, {"SUBSTR", args(bin(1, 1, 0), whole(1)), api.TChar}, {"TRANSLATE", args(bits("1"), bits("1"), bits("1")), api.TChar},
		{"REPEAT", args(bits("1"), whole(1)), api.TBit}, {"COPY", args(float(1, 0, 1), whole(1)), api.TChar}, {"REVERSE", args(bits("1")), api.TBit}, {"STRING", args(whole(1)), api.TChar},
		{"BOOL", args(chars("1"), chars("1"), chars("1")), api.TBit}, {"CHAR", args(bits("1"), whole(999)), api.TChar}, {"BIT", args(chars("1"), whole(-1)), api.TBit},
		{"HIGH", args(whole(-1)), api.TChar}, {"LOW", args(whole(999)), api.TChar},
	} {
		values, types := parted(x.args)
		for _, of := range plainTypes() {
			if of.Kind != x.kind {
				refusesCall(t, x.name, values, types, of, api.ErrKind)
			} else if _, _, e := built.Call(x.name, values, types, of); e != api.OK {
				t.Errorf("Call(%q, %+v, %+v) = %d", x.name, x.args, of, e)
			}
		}
	}
}
