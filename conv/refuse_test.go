package conv_test

import (
	"math"
	"math/rand"
	"testing"

	"ironbark/api"
	"ironbark/conv"
	"ironbark/digit"
)

// wrongValues are not valid, each in another way.
func wrongValues() []api.Value {
	return []api.Value{
		{}, {Kind: -1}, {Kind: 10}, {Kind: math.MinInt}, {Kind: math.MaxInt},
		vbin(1<<31, 0), vbin(1, -1), vbin(1, 32), {Kind: api.TBin, S: "1"},
		vdec(mostDec+1, 0), vdec(1, -1), vdec(1, 32), vdec(math.MinInt, 0), {Kind: api.TDec, S: " "},
		vfloat(10, 0), vfloat(0, 1), vfloat(1, 76), vfloat(1, -76), vfloat(mostDec+2, 0),
		text("a\n"), text("\x1f"), text("\x7f"), text("1\x80"), text("ö"), text("\x00"), text(many("a", 251)),
		{Kind: api.TChar, N: 1}, {Kind: api.TChar, Q: 1, S: "a"},
		digits("2"), digits("0 "), digits("1a"), digits(many("1", 251)), {Kind: api.TBit, N: 1}, {Kind: api.TBit, Q: -1},
		{Kind: api.TPic, N: 1}, {Kind: api.TPic, S: many("9", 251)},
		{Kind: api.TPtr, N: -1}, {Kind: api.TPtr, Q: 1}, {Kind: api.TLabel, N: -1}, {Kind: api.TEntry, S: "x"},
	}
}

// wrongTypes are not valid, each in another way.
func wrongTypes() []api.Type {
	return []api.Type{
		{}, {Kind: -1}, {Kind: 10}, {Kind: math.MaxInt}, {Kind: math.MinInt},
		tbin(0, 0), tbin(32, 0), tbin(1, -1), tbin(1, 32), {Kind: api.TBin, P: 1, N: 1}, {Kind: api.TBin, P: 1, Vary: true},
		tdec(0, 0), tdec(16, 0), tdec(1, -1), tdec(1, 32), {Kind: api.TDec, P: 1, Pic: "9"},
		tfloat(0), tfloat(16), {Kind: api.TFloat, P: 1, Q: 1},
		tchar(-1), tchar(251), {Kind: api.TChar, P: 1}, tbit(-1), tbit(251), {Kind: api.TBit, N: 1, Q: 1},
		{Kind: api.TPic}, {Kind: api.TPtr, P: 1}, {Kind: api.TLabel, N: 1}, {Kind: api.TEntry, Vary: true},
	}
}

// rightValues are of the kinds that are converted, with their types.
func rightValues() []typed {
	return []typed{
		dec(125, 3, 2), bin(5, 3, 1), float(125, 0, 3), chars("1X"), chars(""), chars("125"), bits("101"), bits(""),
		{text("7"), vary(tchar(9))}, {digits("1"), vary(tbit(9))},
	}
}

// otherValues are valid, but of kinds that are not converted.
func otherValues() []typed {
	return []typed{
		{api.Value{Kind: api.TPic, S: "12"}, api.Type{Kind: api.TPic, Pic: "99"}},
		{api.Value{Kind: api.TPic, S: "\n\x80"}, api.Type{Kind: api.TPic, Pic: "99"}},
		{api.Value{Kind: api.TPtr, N: 7}, api.Type{Kind: api.TPtr}},
		{api.Value{Kind: api.TLabel, N: 1, Q: 2}, api.Type{Kind: api.TLabel}},
		{api.Value{Kind: api.TEntry}, api.Type{Kind: api.TEntry}},
	}
}

// allTypes are valid ones, of all kinds.
func allTypes() []api.Type {
	var l []api.Type
	for _, v := range append(rightValues(), otherValues()...) {
		l = append(l, v.of)
	}
	return l
}

// mismatched are valid values with valid types of which they are not.
func mismatched() []typed {
	var l []typed
	for _, v := range append(rightValues(), otherValues()...) {
		for _, of := range allTypes() {
			if !digit.Has(of, v.Value) {
				l = append(l, typed{v.Value, of})
			}
		}
	}
	return append(l, dec(125, 2, 2), typed{vdec(125, 2), tdec(3, 1)}, bin(8, 3, 0), float(12, 0, 1), typed{text("ab"), tchar(3)}, typed{text("ab"), vary(tchar(1))}, typed{digits("1"), tbit(2)})
}

func refusesConvert(t *testing.T, v typed, to api.Type, want api.Errno) {
	t.Helper()
	if w, r, e := conv.Convert(v.Value, v.of, to); w != (api.Value{}) || r != (api.Raise{}) || e != want {
		t.Errorf("Convert(%+v, %+v) = %+v, %+v, %d; want %d", v, to, w, r, e, want)
	}
}

func refusesField(t *testing.T, v typed, want api.Errno) {
	t.Helper()
	if s, e := conv.Field(v.Value, v.of); s != "" || e != want {
		t.Errorf("Field(%+v) = %q, %d; want %d", v, s, e, want)
	}
}

// A value that is not valid comes first, whatever the types.
func TestInvalidValues(t *testing.T) {
	for _, v := range wrongValues() {
		for _, of := range append(wrongTypes(), allTypes()...) {
			refusesField(t, typed{v, of}, api.ErrInvalid)
			for _, to := range append(wrongTypes(), allTypes()...) {
				refusesConvert(t, typed{v, of}, to, api.ErrInvalid)
			}
		}
		if is, e := conv.Truth(v); is || e != api.ErrInvalid {
			t.Errorf("Truth(%+v) = %v, %d", v, is, e)
		}
	}
}

func TestTypes(t *testing.T) {
	for _, v := range append(rightValues(), otherValues()...) {
		for _, of := range wrongTypes() {
			refusesField(t, typed{v.Value, of}, api.ErrType)
			for _, to := range append(wrongTypes(), allTypes()...) {
				refusesConvert(t, typed{v.Value, of}, to, api.ErrType)
			}
			refusesConvert(t, v, of, api.ErrType)
		}
	}
	for _, v := range mismatched() {
		refusesField(t, v, api.ErrType)
		for _, to := range append(wrongTypes(), allTypes()...) {
			refusesConvert(t, v, to, api.ErrType)
		}
	}
}

func TestKinds(t *testing.T) {
	for _, other := range otherValues() {
		refusesField(t, other, api.ErrKind)
		for _, to := range allTypes() {
			refusesConvert(t, other, to, api.ErrKind)
		}
		for _, v := range rightValues() {
			refusesConvert(t, v, other.of, api.ErrKind)
		}
	}
	for _, v := range []typed{chars("125"), chars(""), bits("1"), bits(""), {text("7"), vary(tchar(9))}} {
		refusesField(t, v, api.ErrKind)
	}
	for _, v := range append(rightValues(), otherValues()...) {
		if v.Kind == api.TBit {
			continue
		}
		if is, e := conv.Truth(v.Value); is || e != api.ErrKind {
			t.Errorf("Truth(%+v) = %v, %d", v, is, e)
		}
	}
}

func TestLengthErrors(t *testing.T) {
	refuses := func(from, to api.Type, want api.Errno) {
		t.Helper()
		if n, e := conv.Length(from, to); n != 0 || e != want {
			t.Errorf("Length(%+v, %+v) = %d, %d; want %d", from, to, n, e, want)
		}
	}
	for _, of := range wrongTypes() {
		for _, other := range append(wrongTypes(), allTypes()...) {
			refuses(of, other, api.ErrType)
			refuses(other, of, api.ErrType)
		}
	}
	for _, of := range allTypes() {
		for _, other := range otherValues() {
			refuses(of, other.of, api.ErrKind)
			refuses(other.of, of, api.ErrKind)
		}
		for _, to := range []api.Type{tbin(3, 0), tdec(3, 0), tfloat(3)} {
			refuses(of, to, api.ErrKind)
		}
	}
}

func TestConstantErrors(t *testing.T) {
	refuses := func(source string, want api.Errno) {
		t.Helper()
		if v, of, at, e := conv.Constant(source); v != (api.Value{}) || of != (api.Type{}) || at != 0 || e != want {
			t.Errorf("Constant(%q) = %+v, %+v, %d, %d; want %d", source, v, of, at, e, want)
		}
	}
	for _, source := range []string{many("1", 251), many(" ", 251), many("X", 1000), many(" ", 250) + "\n", many("\x80", 251)} {
		refuses(source, api.ErrLong)
	}
	// Also behind what is no constant.
	for _, source := range []string{"\n", "1\n", "\x1f1", "1\x7f", "\xff", "ö", "１", "X\x00", "1 1\t", many("1", 249) + "\x80"} {
		refuses(source, api.ErrInvalid)
	}
}

// Each error comes ahead of the later ones.
func TestAgainErrors(t *testing.T) {
	raises := []api.Raise{{Cond: api.CConversion, Source: "1X", At: 1}, {}, {Cond: api.CSize}, {Cond: -1}, {Cond: 2}, {Cond: api.CFinish, Source: "1X"}, {Cond: math.MaxInt}}
	sources := []string{"1", "", "X", "\n", many("1", 250), many("1", 251), many("\n", 251)}
	refuses := func(r api.Raise, source string, to api.Type, want api.Errno) {
		t.Helper()
		if w, again, e := conv.Again(r, source, to); w != (api.Value{}) || again != (api.Raise{}) || e != want {
			t.Errorf("Again(%+v, %q, %+v) = %+v, %+v, %d; want %d", r, source, to, w, again, e, want)
		}
	}
	for _, r := range raises {
		for _, source := range sources {
			for _, to := range wrongTypes() {
				refuses(r, source, to, api.ErrType)
			}
			for _, other := range otherValues() {
				refuses(r, source, other.of, api.ErrKind)
			}
			for _, v := range rightValues() {
				switch {
				case len(source) > api.MaxLen:
					refuses(r, source, v.of, api.ErrLong)
				case r.Cond != api.CConversion:
					refuses(r, source, v.of, api.ErrState)
				case source == "\n":
					refuses(r, source, v.of, api.ErrInvalid)
				}
			}
		}
	}
}

// P6.1: whatever the arguments, a call ends and does not panic; beside an error all is zero.
func TestAnyArguments(t *testing.T) {
	r := rand.New(rand.NewSource(10))
	values, types := wrongValues(), append(wrongTypes(), allTypes()...)
	for _, v := range append(rightValues(), otherValues()...) {
		values = append(values, v.Value)
	}
	for range 20000 {
		v, from, to := values[r.Intn(len(values))], types[r.Intn(len(types))], types[r.Intn(len(types))]
		source := someItems(r, " 01.E+-BX\n\x80", r.Intn(260))
		if w, raise, e := conv.Convert(v, from, to); e != api.OK && (w != (api.Value{}) || raise != (api.Raise{})) {
			t.Errorf("Convert(%+v, %+v, %+v) = %+v, %+v, %d", v, from, to, w, raise, e)
		}
		if s, e := conv.Field(v, from); e != api.OK && s != "" {
			t.Errorf("Field(%+v, %+v) = %q, %d", v, from, s, e)
		}
		if n, e := conv.Length(from, to); e != api.OK && n != 0 {
			t.Errorf("Length(%+v, %+v) = %d, %d", from, to, n, e)
		}
		if v, of, at, e := conv.Constant(source); e != api.OK && (v != (api.Value{}) || of != (api.Type{}) || at != 0) {
			t.Errorf("Constant(%q) = %+v, %+v, %d, %d", source, v, of, at, e)
		}
		if is, e := conv.Truth(v); e != api.OK && is {
			t.Errorf("Truth(%+v) = %v, %d", v, is, e)
		}
		raise := api.Raise{Cond: r.Intn(3), Source: source, At: r.Int() - r.Int()}
		if w, again, e := conv.Again(raise, source, to); e != api.OK && (w != (api.Value{}) || again != (api.Raise{})) {
			t.Errorf("Again(%+v, %q, %+v) = %+v, %+v, %d", raise, source, to, w, again, e)
		}
	}
}
