package built_test

import (
	"math/rand"
	"slices"
	"testing"

	"ironbark/api"
	layer5 "ironbark/bits"
	"ironbark/built"
	"ironbark/digit"
)

// valueOf is what a function tells, of the type that Result tells.
func valueOf(t *testing.T, name string, l ...typed) (typed, api.Raise) {
	t.Helper()
	values, types := parted(l)
	of, e := built.Result(name, types, values)
	if e != api.OK {
		t.Fatalf("Result(%q, %+v) = %d", name, l, e)
	}
	v, r, e := built.Call(name, values, types, of)
	if e != api.OK {
		t.Fatalf("Call(%q, %+v, %+v) = %d", name, l, of, e)
	}
	return typed{v, of}, r
}

// P8.1: whatever the arguments, a call ends and does not panic; beside an error all is zero.
func TestAnyArguments(t *testing.T) {
	r := rand.New(rand.NewSource(1))
	names, all := append(built.Names(), "", "X", "abs"), append(wrongValues(), otherValues()...)
	types := append(wrongTypes(), plainTypes()...)
	for _, v := range all {
		types = append(types, v.of)
	}
	some := func() typed {
		switch v := all[r.Intn(len(all))]; r.Intn(8) {
		case 0:
			return v
		case 1:
			return typed{v.Value, types[r.Intn(len(types))]}
		}
		return someTyped(r)
	}
	for range 40000 {
		var l []typed
		for range []int{0, 1, 1, 2, 2, 3, 3, 4, 20, 21}[r.Intn(10)] {
			l = append(l, some())
		}
		values, argTypes := parted(l)
		name, of := names[r.Intn(len(names))], types[r.Intn(len(types))]
		values = values[min(len(values), r.Intn(8)/7):] // sometimes one is missing
		if told, e := built.Result(name, argTypes, values); e != api.OK && told != (api.Type{}) || e == api.OK && !digit.Valid(told) {
			t.Errorf("Result(%q, %+v, %+v) = %+v, %d", name, argTypes, values, told, e)
		}
		v, raise, e := built.Call(name, values, argTypes, of)
		if e != api.OK && (v != (api.Value{}) || raise != (api.Raise{})) || e == api.OK && !digit.Has(of, v) {
			t.Errorf("Call(%q, %+v, %+v, %+v) = %+v, %+v, %d", name, values, argTypes, of, v, raise, e)
		}
		if e != api.OK && (!slices.Contains([]api.Errno{api.ErrName, api.ErrSize, api.ErrType, api.ErrInvalid, api.ErrKind}, e)) {
			t.Errorf("Call(%q, %+v, %+v, %+v): %d", name, values, argTypes, of, e)
		}
	}
}

// P8.2: a value is of the type asked for, whichever of the right kind that is and whatever the condition.
func TestType(t *testing.T) {
	r := rand.New(rand.NewSource(2))
	for _, f := range functions() {
		for range 1000 {
			l := someArguments(r, f)
			values, types := parted(l)
			of, is := typeOfKind(r, f, l)
			if !is {
				of = someType(r)
				refusesCall(t, f.name, values, types, of, api.ErrKind)
				continue
			}
			v, raise, e := built.Call(f.name, values, types, of)
			if !digit.Has(of, v) || e != api.OK {
				t.Errorf("Call(%q, %+v, %+v) = %+v, %d", f.name, l, of, v, e)
			}
			if raise.Cond != api.CConversion && raise != cond(raise.Cond) {
				t.Errorf("Call(%q, %+v, %+v) raises %+v", f.name, l, of, raise)
			}
		}
	}
}

// someWhole is a number of a whole type, of any kind.
func someWhole(r *rand.Rand) typed {
	switch r.Intn(3) {
	case 0:
		of := tbin(1+r.Intn(31), 0)
		return typed{someValue(r, of), of}
	case 1:
		of := tdec(1+r.Intn(9), 0)
		return typed{someValue(r, of), of}
	}
	return dec(r.Intn(2000)-1000, 4, 0)
}

// P8.3: MOD of whole numbers has the divisor's sign or is 0, and is nearer to 0 than it.
func TestModuloPromise(t *testing.T) {
	r := rand.New(rand.NewSource(3))
	for range 20000 {
		x, y := someWhole(r), someWhole(r)
		if y.N == 0 {
			continue
		}
		m, raise := valueOf(t, "MOD", x, y)
		if raise != (api.Raise{}) || m.N != 0 && (m.N < 0) != (y.N < 0) || max(m.N, -m.N) >= max(y.N, -y.N) || (x.N-m.N)%y.N != 0 {
			t.Fatalf("MOD(%+v, %+v) = %+v, %+v", x, y, m, raise)
		}
	}
}

// P8.4: FLOOR is at most x and CEIL at least, with less than 1 between; both are TRUNC if x is whole, and one of them is.
func TestWholePromise(t *testing.T) {
	r := rand.New(rand.NewSource(4))
	seen := map[bool]int{}
	for range 20000 {
		x := someTyped(r)
		if isString(x.of) {
			continue
		}
		floor, below := valueOf(t, "FLOOR", x)
		ceil, above := valueOf(t, "CEIL", x)
		trunc, cut := valueOf(t, "TRUNC", x)
		none := cond(0)
		if below != none || above != none || cut != none {
			t.Fatalf("%+v: %+v, %+v, %+v", x, below, above, cut)
		}
		at, f, c, w := fraction(x.Value), fraction(floor.Value), fraction(ceil.Value), fraction(trunc.Value)
		one := plain(1)
		isWhole := f.Cmp(c) == 0
		seen[isWhole]++
		if f.Cmp(at) > 0 || c.Cmp(at) < 0 || !f.IsInt() || !c.IsInt() || isWhole != at.IsInt() || !isWhole && minus(c, f).Cmp(one) != 0 {
			t.Fatalf("%+v: from %+v to %+v", x, floor, ceil)
		}
		if at.Sign() >= 0 && w.Cmp(f) != 0 || at.Sign() <= 0 && w.Cmp(c) != 0 {
			t.Fatalf("TRUNC(%+v) = %+v", x, trunc)
		}
	}
	if seen[true] < 2000 || seen[false] < 2000 {
		t.Errorf("whole: %v", seen)
	}
}

// P8.5: the parts of a string before and behind a place make it again.
func TestPartsPromise(t *testing.T) {
	r := rand.New(rand.NewSource(5))
	for range 2000 {
		s := someTyped(r)
		all, none := wholeText(t, s), cond(0)
		for n := range len(all.S) + 1 {
			a, first := valueOf(t, "SUBSTR", s, whole(1), whole(n))
			b, second := valueOf(t, "SUBSTR", s, whole(n+1))
			joined, e := layer5.Join(a.Value, b.Value)
			if joined != all || first != none || second != none || e != api.OK {
				t.Fatalf("%+v at %d: %+v and %+v, %+v, %+v", s, n, a, b, first, second)
			}
		}
	}
}

func wholeText(t *testing.T, s typed) api.Value {
	v, _ := valueOf(t, "STRING", s)
	return v.Value
}

// R4: arguments are not modified, nor is what lies behind them.
func TestArgumentsStay(t *testing.T) {
	r := rand.New(rand.NewSource(6))
	for _, f := range functions() {
		for range 200 {
			values, types := parted(someArguments(r, f))
			behind, behindTypes := append(values, vdec(7, 0), text("x")), append(types, tdec(7, 0), tchar(1))
			wantValues, wantTypes := slices.Clone(behind), slices.Clone(behindTypes)
			n := len(values)
			of, _ := built.Result(f.name, behindTypes[:n], behind[:n])
			built.Call(f.name, behind[:n], behindTypes[:n], of)
			if !slices.Equal(behind, wantValues) || !slices.Equal(behindTypes, wantTypes) {
				t.Fatalf("%q changed %+v, %+v to %+v, %+v", f.name, wantValues, wantTypes, behind, behindTypes)
			}
		}
	}
}

// R7: the same calls give the same results.
func TestSameAgain(t *testing.T) {
	r := rand.New(rand.NewSource(7))
	for _, f := range functions() {
		for range 100 {
			l := someArguments(r, f)
			values, types := parted(l)
			of, is := typeOfKind(r, f, l)
			if !is {
				of = someType(r)
				refusesCall(t, f.name, values, types, of, api.ErrKind)
				continue
			}
			v, raise, e := built.Call(f.name, values, types, of)
			for range 3 {
				if w, again, e2 := built.Call(f.name, values, types, of); w != v || again != raise || e2 != e {
					t.Fatalf("%q of %+v: %+v, %+v, %d and %+v, %+v, %d", f.name, l, v, raise, e, w, again, e2)
				}
			}
		}
	}
}

// Numbers far beyond any count are taken as they are.
func TestNumbersFarAway(t *testing.T) {
	for _, far := range []api.Value{vdec(mostDec, 0), vdec(-mostDec, 0), vfloat(1, 75), vfloat(-mostDec, 61), vbin(mostBin, 0), vbin(-mostBin, 0)} {
		of := map[int]api.Type{api.TDec: tdec(15, 0), api.TFloat: tfloat(15), api.TBin: tbin(31, 0)}[far.Kind]
		for _, name := range []string{"REPEAT", "COPY", "SUBSTR"} {
			v, r, e := built.Call(name, []api.Value{text("ab"), far}, types(tchar(2), of), vary(tchar(250)))
			if !digit.Has(vary(tchar(250)), v) || e != api.OK {
				t.Errorf("Call(%q, %+v) = %+v, %+v, %d", name, far, v, r, e)
			}
			if too := far.Kind != api.TBin; too != (r == cond(api.CSize)) {
				t.Errorf("Call(%q, %+v) raises %+v", name, far, r)
			}
		}
	}
	if v, r, e := built.Call("HIGH", []api.Value{vbin(mostBin, 0)}, types(tbin(31, 0)), tchar(1)); v != text("~") || r != cond(api.CStringSize) || e != api.OK {
		t.Errorf("%+v, %+v, %d", v, r, e)
	}
}
