package digit_test

import (
	"math"
	"strings"
	"testing"

	"ironbark/api"
	"ironbark/digit"
)

func binType(p, q int) api.Type { return api.Type{Kind: api.TBin, P: p, Q: q} }

func decType(p, q int) api.Type { return api.Type{Kind: api.TDec, P: p, Q: q} }

func floatType(p int) api.Type { return api.Type{Kind: api.TFloat, P: p} }

func bin(n, q int) api.Value { return api.Value{Kind: api.TBin, N: n, Q: q} }

func dec(n, q int) api.Value { return api.Value{Kind: api.TDec, N: n, Q: q} }

func float(n, q int) api.Value { return api.Value{Kind: api.TFloat, N: n, Q: q} }

func char(s string) api.Value { return api.Value{Kind: api.TChar, S: s} }

func bit(s string) api.Value { return api.Value{Kind: api.TBit, S: s} }

func pic(s string) api.Value { return api.Value{Kind: api.TPic, S: s} }

const (
	ten15 = 1_000_000_000_000_000
	two31 = 1 << 31
)

func rightTypes() []api.Type {
	return []api.Type{
		binType(1, 0), binType(31, 31), decType(1, 0), decType(15, 31), floatType(1), floatType(15),
		{Kind: api.TChar}, {Kind: api.TChar, N: 250}, {Kind: api.TChar, N: 250, Vary: true}, {Kind: api.TChar, Vary: true},
		{Kind: api.TBit}, {Kind: api.TBit, N: 250}, {Kind: api.TBit, N: 250, Vary: true},
		{Kind: api.TPic, Pic: "9"}, {Kind: api.TPic, Pic: strings.Repeat("\xff", 80)},
		{Kind: api.TPtr}, {Kind: api.TLabel}, {Kind: api.TEntry},
	}
}

func wrongTypes() []api.Type {
	wrong := []api.Type{
		{}, {Kind: -1}, {Kind: 10}, {Kind: math.MaxInt}, {Kind: math.MinInt},
		binType(0, 0), binType(-1, 0), binType(32, 0), binType(31, 32), binType(31, -1),
		decType(0, 0), decType(16, 0), decType(15, 32), decType(15, -1),
		floatType(0), floatType(16), floatType(math.MinInt), {Kind: api.TFloat, P: 3, Q: 1},
		{Kind: api.TChar, N: -1}, {Kind: api.TChar, N: 251}, {Kind: api.TChar, N: 251, Vary: true},
		{Kind: api.TBit, N: -1}, {Kind: api.TBit, N: 251},
		{Kind: api.TPic}, {Kind: api.TPic, Pic: strings.Repeat("9", 81)},
	}
	// Any field that is not of the kind makes a type wrong.
	for _, t := range rightTypes() {
		number := t.Kind == api.TBin || t.Kind == api.TDec || t.Kind == api.TFloat
		text := t.Kind == api.TChar || t.Kind == api.TBit
		if !number {
			p := t
			p.P = 1
			wrong = append(wrong, p)
		}
		if !number || t.Kind == api.TFloat {
			q := t
			q.Q = 1
			wrong = append(wrong, q)
		}
		if !text {
			n, vary := t, t
			n.N, vary.Vary = 1, true
			wrong = append(wrong, n, vary)
		}
		if t.Kind != api.TPic {
			picture := t
			picture.Pic = "9"
			wrong = append(wrong, picture)
		}
	}
	return wrong
}

func rightValues() []api.Value {
	return []api.Value{
		bin(0, 0), bin(two31-1, 31), bin(1-two31, 0), dec(0, 31), dec(ten15-1, 31), dec(1-ten15, 0),
		float(0, 0), float(1, 75), float(1, -75), float(-1, 75), float(12, 74), float(-12, -76), float(ten15-1, 61), float(ten15-1, -89), float(1-ten15, -89),
		char(""), char("\x00\xff"), char(strings.Repeat("x", 250)),
		bit(""), bit("0110"), bit(strings.Repeat("1", 250)),
		pic(""), pic("any"), pic(strings.Repeat("x", 250)),
		{Kind: api.TPtr}, {Kind: api.TPtr, N: api.MaxCount},
		{Kind: api.TLabel}, {Kind: api.TLabel, N: api.MaxCount, Q: api.MaxCount},
		{Kind: api.TEntry}, {Kind: api.TEntry, N: api.MaxCount, Q: api.MaxCount},
	}
}

func wrongValues() []api.Value {
	wrong := []api.Value{
		{}, {Kind: -1}, {Kind: 10}, {Kind: math.MaxInt}, {Kind: math.MinInt},
		bin(two31, 0), bin(-two31, 0), bin(0, 32), bin(0, -1), bin(math.MinInt, 0), bin(math.MaxInt, 0),
		dec(ten15, 0), dec(-ten15, 0), dec(0, 32), dec(0, -1), dec(math.MinInt, 0),
		float(0, 1), float(0, -1), float(10, 0), float(-120, 3), float(ten15, 0), float(ten15+1, 0), float(-ten15-1, 0), float(math.MinInt, 0), float(math.MaxInt, 0),
		float(1, 76), float(1, -76), float(12, 75), float(12, -77), float(ten15-1, 62), float(ten15-1, -90), float(1, math.MaxInt), float(1, math.MinInt), float(123, math.MaxInt),
		char(strings.Repeat("x", 251)), {Kind: api.TChar, N: 1}, {Kind: api.TChar, Q: 1},
		bit("012"), bit("0 "), bit("1\x00"), bit(strings.Repeat("1", 251)), {Kind: api.TBit, S: "1", N: 1}, {Kind: api.TBit, Q: 1},
		pic(strings.Repeat("x", 251)), {Kind: api.TPic, S: "1", N: 1}, {Kind: api.TPic, Q: -1},
		{Kind: api.TPtr, N: -1}, {Kind: api.TPtr, N: api.MaxCount + 1}, {Kind: api.TPtr, Q: 1},
		{Kind: api.TLabel, N: -1}, {Kind: api.TLabel, Q: -1}, {Kind: api.TLabel, N: api.MaxCount + 1}, {Kind: api.TLabel, Q: api.MaxCount + 1},
		{Kind: api.TEntry, N: -1}, {Kind: api.TEntry, Q: -1}, {Kind: api.TEntry, N: api.MaxCount + 1}, {Kind: api.TEntry, Q: api.MaxCount + 1},
	}
	for _, v := range rightValues() {
		if v.Kind != api.TChar && v.Kind != api.TBit && v.Kind != api.TPic {
			v.S = "1"
			wrong = append(wrong, v)
		}
	}
	return wrong
}

func isNumber(kind int) bool {
	return kind == api.TBin || kind == api.TDec || kind == api.TFloat
}

func TestValid(t *testing.T) {
	for _, x := range rightTypes() {
		if !digit.Valid(x) {
			t.Errorf("%+v should be valid", x)
		}
	}
	for _, x := range wrongTypes() {
		if digit.Valid(x) {
			t.Errorf("%+v should not be valid", x)
		}
	}
}

func TestRight(t *testing.T) {
	for _, v := range rightValues() {
		if !digit.Right(v) {
			t.Errorf("%+v should be right", v)
		}
	}
	for _, v := range wrongValues() {
		if digit.Right(v) {
			t.Errorf("%+v should not be right", v)
		}
	}
}

func TestHas(t *testing.T) {
	type pair struct {
		t api.Type
		v api.Value
	}
	chars := func(n int, vary bool) api.Type { return api.Type{Kind: api.TChar, N: n, Vary: vary} }
	bits := func(n int, vary bool) api.Type { return api.Type{Kind: api.TBit, N: n, Vary: vary} }
	yes := []pair{
		{decType(3, 1), dec(999, 1)}, {decType(3, 1), dec(-999, 1)}, {decType(15, 0), dec(ten15-1, 0)}, {decType(1, 31), dec(0, 31)},
		{binType(3, 1), bin(7, 1)}, {binType(3, 1), bin(-7, 1)}, {binType(31, 0), bin(two31-1, 0)},
		{floatType(3), float(999, 5)}, {floatType(3), float(-1, 75)}, {floatType(1), float(0, 0)}, {floatType(15), float(1-ten15, 0)},
		{chars(2, false), char("ab")}, {chars(2, true), char("ab")}, {chars(2, true), char("")}, {chars(0, false), char("")},
		{bits(2, false), bit("01")}, {bits(2, true), bit("0")},
		{api.Type{Kind: api.TPic, Pic: "9"}, pic("much more")}, {api.Type{Kind: api.TPtr}, api.Value{Kind: api.TPtr, N: 9}},
		{api.Type{Kind: api.TLabel}, api.Value{Kind: api.TLabel, N: 9, Q: 1}}, {api.Type{Kind: api.TEntry}, api.Value{Kind: api.TEntry, N: 9, Q: 1}},
	}
	no := []pair{
		{decType(3, 1), dec(1000, 1)}, {decType(3, 1), dec(-1000, 1)}, {decType(3, 1), dec(1, 0)}, {decType(3, 1), bin(1, 1)},
		{binType(3, 1), bin(8, 1)}, {binType(3, 1), bin(-8, 1)}, {binType(3, 1), bin(1, 2)}, {binType(3, 1), dec(1, 1)},
		{floatType(3), float(1234, 0)}, {floatType(3), float(-1234, 0)}, {floatType(3), dec(1, 0)},
		{chars(2, false), char("a")}, {chars(2, false), char("abc")}, {chars(2, true), char("abc")}, {chars(2, false), bit("01")},
		{bits(2, false), bit("0")}, {bits(2, true), bit("010")}, {bits(2, false), char("01")},
		{api.Type{Kind: api.TPic, Pic: "9"}, char("1")}, {api.Type{Kind: api.TPtr}, api.Value{Kind: api.TLabel}},
		{api.Type{Kind: api.TLabel}, api.Value{Kind: api.TEntry}}, {api.Type{Kind: api.TEntry}, api.Value{Kind: api.TLabel}},
		// what is not valid has nothing, and is had by nothing
		{decType(16, 0), dec(1, 0)}, {decType(15, 0), dec(ten15, 0)}, {floatType(15), float(10, 0)}, {floatType(3), float(1, 76)},
		{api.Type{Kind: api.TPic}, pic("1")}, {api.Type{}, api.Value{}}, {bits(2, false), bit("02")},
		{api.Type{Kind: api.TPtr}, api.Value{Kind: api.TPtr, N: -1}}, {api.Type{Kind: api.TPtr, N: 1}, api.Value{Kind: api.TPtr}},
	}
	for _, p := range yes {
		if !digit.Has(p.t, p.v) {
			t.Errorf("%+v should have %+v", p.t, p.v)
		}
	}
	for _, p := range no {
		if digit.Has(p.t, p.v) {
			t.Errorf("%+v should not have %+v", p.t, p.v)
		}
	}
}

func TestZero(t *testing.T) {
	blank, none := strings.Repeat(" ", 250), strings.Repeat("0", 250)
	for _, x := range []struct {
		t api.Type
		v api.Value
		e api.Errno
	}{
		{binType(31, 31), bin(0, 31), api.OK}, {decType(5, 2), dec(0, 2), api.OK}, {floatType(9), float(0, 0), api.OK},
		{api.Type{Kind: api.TChar, N: 250}, char(blank), api.OK}, {api.Type{Kind: api.TChar}, char(""), api.OK}, {api.Type{Kind: api.TChar, N: 3, Vary: true}, char(""), api.OK},
		{api.Type{Kind: api.TBit, N: 250}, bit(none), api.OK}, {api.Type{Kind: api.TBit, N: 3, Vary: true}, bit(""), api.OK},
		{api.Type{Kind: api.TPic, Pic: "9"}, api.Value{}, api.ErrKind}, {api.Type{Kind: api.TPtr}, api.Value{}, api.ErrKind},
		{api.Type{Kind: api.TLabel}, api.Value{}, api.ErrKind}, {api.Type{Kind: api.TEntry}, api.Value{}, api.ErrKind},
		{api.Type{Kind: api.TPic}, api.Value{}, api.ErrType}, {api.Type{Kind: api.TPtr, N: 1}, api.Value{}, api.ErrType},
	} {
		if v, e := digit.Zero(x.t); v != x.v || e != x.e {
			t.Errorf("Zero(%+v) = %+v, %d", x.t, v, e)
		} else if e == api.OK && !digit.Has(x.t, v) {
			t.Errorf("%+v has not its own 0", x.t)
		}
	}
	for _, x := range wrongTypes() {
		if v, e := digit.Zero(x); v != (api.Value{}) || e != api.ErrType {
			t.Errorf("Zero(%+v) = %+v, %d", x, v, e)
		}
	}
}
