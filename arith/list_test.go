package arith_test

import (
	"math/rand"
	"slices"
	"testing"

	"ironbark/api"
	"ironbark/arith"
	"ironbark/digit"
)

func TestSumOfLists(t *testing.T) {
	for _, x := range []struct {
		l    []api.Value
		t    api.Type
		want api.Value
		cond int
	}{
		{nil, tdec(5, 2), vdec(0, 2), 0}, {nil, tbin(1, 31), vbin(0, 31), 0}, {[]api.Value{}, tfloat(3), vfloat(0, 0), 0},
		{[]api.Value{vdec(125, 2)}, tdec(2, 1), vdec(12, 1), 0}, {[]api.Value{vdec(1, 0), vbin(1, 1), vfloat(25, -2)}, tdec(5, 2), vdec(175, 2), 0},
		// Each sum is fitted, the values are not.
		{[]api.Value{vdec(5, 1), vdec(5, 1), vdec(1, 0)}, tdec(3, 0), vdec(1, 0), 0}, {[]api.Value{vdec(-1, 0), vdec(9, 1)}, tdec(1, 0), vdec(0, 0), 0},
		{[]api.Value{vfloat(1, 3), vfloat(5, 0), vfloat(5, 0)}, tfloat(3), vfloat(102, 1), 0}, {[]api.Value{vfloat(5, 0), vfloat(5, 0), vfloat(1, 3)}, tfloat(3), vfloat(101, 1), 0},
		{[]api.Value{vdec(99, 0), vdec(99, 0), vdec(-98, 0)}, tdec(3, 0), vdec(100, 0), 0},
		// The first condition ends it, with what is taken then.
		{[]api.Value{vdec(99, 0), vdec(2, 0)}, tdec(2, 0), vdec(1, 0), api.CFixedOverflow}, {[]api.Value{vdec(99, 0), vdec(2, 0), vdec(50, 0)}, tdec(2, 0), vdec(1, 0), api.CFixedOverflow},
		{[]api.Value{vdec(-123, 0), vdec(123, 0)}, tdec(2, 0), vdec(-23, 0), api.CFixedOverflow}, {[]api.Value{vbin(7, 0), vbin(2, 0), vfloat(1, 75)}, tbin(3, 0), vbin(1, 0), api.CFixedOverflow},
		{[]api.Value{vfloat(6, 75), vfloat(6, 75), vfloat(1, 0)}, tfloat(1), vfloat(0, 0), api.COverflow}, {[]api.Value{vfloat(11, -75), vfloat(-105, -76), vfloat(1, 0)}, tfloat(15), vfloat(0, 0), api.CUnderflow},
	} {
		if v, cond, e := arith.Sum(x.l, x.t); v != x.want || cond != x.cond || e != api.OK {
			t.Errorf("Sum(%+v, %+v) = %+v, %d, %d; want %+v, %d", x.l, x.t, v, cond, e, x.want, x.cond)
		}
	}
}

func TestPolynomials(t *testing.T) {
	for _, y := range []struct {
		x    api.Value
		l    []api.Value
		t    api.Type
		want api.Value
		cond int
	}{
		{vdec(3, 0), nil, tdec(5, 2), vdec(0, 2), 0}, {vdec(3, 0), nil, tfloat(2), vfloat(0, 0), 0}, {vdec(3, 0), []api.Value{vdec(7, 0)}, tbin(5, 1), vbin(14, 1), 0},
		{vdec(3, 0), []api.Value{vdec(1, 0), vdec(2, 0)}, tdec(3, 0), vdec(7, 0), 0}, {vdec(3, 0), []api.Value{vdec(1, 0), vdec(2, 0), vdec(4, 0)}, tdec(3, 0), vdec(43, 0), 0},
		{vbin(-1, 1), []api.Value{vdec(1, 0), vfloat(1, 0), vbin(1, 0)}, tdec(5, 2), vdec(75, 2), 0},
		// x and the values are taken exactly as they are.
		{vdec(15, 1), []api.Value{vdec(0, 0), vdec(2, 0)}, tdec(3, 0), vdec(3, 0), 0}, {vdec(1, 0), []api.Value{vdec(9, 1), vdec(-1, 0)}, tdec(3, 0), vdec(0, 0), 0},
		// A step is two fits: 1 times 0.5 is 0.
		{vdec(5, 1), []api.Value{vdec(5, 1), vdec(1, 0)}, tdec(3, 0), vdec(0, 0), 0}, {vdec(25, 1), []api.Value{vdec(-15, 1), vdec(1, 0)}, tfloat(1), vfloat(2, 0), 0},
		// The first condition ends it, with what is taken then.
		{vdec(2, 0), []api.Value{vdec(5, 0), vdec(99, 0)}, tdec(2, 0), vdec(98, 0), api.CFixedOverflow}, {vdec(2, 0), []api.Value{vdec(5, 0), vdec(5, 0), vdec(-123, 0)}, tdec(2, 0), vdec(-23, 0), api.CFixedOverflow},
		{vdec(2, 0), []api.Value{vdec(4, 0), vdec(7, 0), vdec(3, 0)}, tbin(3, 0), vbin(5, 0), api.CFixedOverflow}, {vdec(1, 0), []api.Value{vdec(1, 0), vdec(7, 0), vdec(1, 0)}, tbin(3, 0), vbin(0, 0), api.CFixedOverflow},
		{vfloat(1, 75), []api.Value{vdec(1, 0), vdec(10, 0)}, tfloat(3), vfloat(0, 0), api.COverflow}, {vfloat(1, -75), []api.Value{vdec(1, 0), vdec(1, 1)}, tfloat(3), vfloat(0, 0), api.CUnderflow},
	} {
		if v, cond, e := arith.Polynomial(y.x, y.l, y.t); v != y.want || cond != y.cond || e != api.OK {
			t.Errorf("Polynomial(%+v, %+v, %+v) = %+v, %d, %d; want %+v, %d", y.x, y.l, y.t, v, cond, e, y.want, y.cond)
		}
	}
}

// listed is a function of a list and a type.
type listed func(l []api.Value, t api.Type) (api.Value, int, api.Errno)

func inTwo(x api.Value) listed {
	return func(l []api.Value, t api.Type) (api.Value, int, api.Errno) { return arith.Polynomial(x, l, t) }
}

func refusesList(t *testing.T, f listed, l []api.Value, of api.Type, want api.Errno) {
	t.Helper()
	if v, cond, e := f(l, of); v != (api.Value{}) || cond != 0 || e != want {
		t.Errorf("%d values from %+v on in %+v: %+v, %d, %d; want %d", len(l), append(l, api.Value{})[0], of, v, cond, e, want)
	}
}

func TestListErrors(t *testing.T) {
	right, many := vdec(1, 0), slices.Repeat([]api.Value{vdec(0, 0)}, api.MaxItems+1)
	for _, f := range []listed{arith.Sum, inTwo(vdec(2, 0))} {
		for _, v := range wrongValues() {
			refusesList(t, f, []api.Value{v}, tdec(1, 0), api.ErrInvalid)
			refusesList(t, f, []api.Value{text("1"), right, v}, tdec(16, 0), api.ErrInvalid)
			refusesList(t, f, append(slices.Clone(many), v), tchar(1), api.ErrInvalid)
		}
		for _, of := range wrongTypes() {
			refusesList(t, f, nil, of, api.ErrType)
			refusesList(t, f, []api.Value{text("1")}, of, api.ErrType)
			refusesList(t, f, many, of, api.ErrType)
		}
		for _, x := range noNumbers() {
			refusesList(t, f, []api.Value{right, x.Value}, tdec(1, 0), api.ErrKind)
			refusesList(t, f, append(slices.Clone(many), x.Value), tdec(1, 0), api.ErrKind)
			refusesList(t, f, nil, x.of, api.ErrKind)
			refusesList(t, f, many, x.of, api.ErrKind)
		}
		refusesList(t, f, many, tdec(1, 0), api.ErrLimit)
		if v, cond, e := f(many[1:], tdec(1, 0)); v != vdec(0, 0) || cond != 0 || e != api.OK {
			t.Errorf("the greatest list: %+v, %d, %d", v, cond, e)
		}
	}
}

func TestPolynomialErrorsOfX(t *testing.T) {
	many := slices.Repeat([]api.Value{vdec(0, 0)}, api.MaxItems+1)
	for _, x := range wrongValues() {
		refusesList(t, inTwo(x), nil, tdec(1, 0), api.ErrInvalid)
		refusesList(t, inTwo(x), append(slices.Clone(many), text("1")), tdec(16, 0), api.ErrInvalid)
	}
	for _, x := range noNumbers() {
		refusesList(t, inTwo(x.Value), nil, tdec(1, 0), api.ErrKind)
		refusesList(t, inTwo(x.Value), many, tdec(1, 0), api.ErrKind)
		refusesList(t, inTwo(x.Value), []api.Value{vdec(1, 32)}, tdec(1, 0), api.ErrInvalid)
		refusesList(t, inTwo(x.Value), many, tdec(16, 0), api.ErrType)
	}
}

// R4: a list is neither modified nor grown into.
func TestListsStay(t *testing.T) {
	all := []api.Value{vdec(1, 0), vdec(2, 0), vdec(99, 0), vdec(4, 0)}
	before := slices.Clone(all)
	arith.Sum(all[:2], tdec(2, 0))
	arith.Polynomial(vdec(7, 0), all[:2], tdec(2, 0))
	if !slices.Equal(all, before) {
		t.Errorf("%+v", all)
	}
}

// Sums and polynomials of whole numbers against plain ones.
func TestListsOfWholeNumbers(t *testing.T) {
	r := rand.New(rand.NewSource(6))
	for range 3000 {
		l := make([]api.Value, r.Intn(6))
		x, sum, polynomial := r.Intn(61)-30, 0, 0
		for i := range l {
			l[i] = vdec(r.Intn(201)-100, 0)
			sum += l[i].N
		}
		for _, v := range slices.Backward(l) {
			polynomial = polynomial*x + v.N
		}
		if v, cond, e := arith.Sum(l, tdec(15, 0)); v != vdec(sum, 0) || cond != 0 || e != api.OK {
			t.Fatalf("Sum(%+v) = %+v, %d, %d", l, v, cond, e)
		}
		if v, cond, e := arith.Polynomial(vdec(x, 0), l, tdec(15, 0)); v != vdec(polynomial, 0) || cond != 0 || e != api.OK {
			t.Fatalf("Polynomial(%d, %+v) = %+v, %d, %d", x, l, v, cond, e)
		}
	}
}

// What a list gives, with a condition, too, is of the type.
func TestListsGiveTheType(t *testing.T) {
	r := rand.New(rand.NewSource(7))
	for range 3000 {
		of, l := someType(r), make([]api.Value, r.Intn(8))
		for i := range l {
			l[i] = someOf(r, someType(r)).Value
		}
		for _, f := range []listed{arith.Sum, inTwo(someOf(r, someType(r)).Value)} {
			if v, _, e := f(l, of); e != api.OK || !digit.Has(of, v) {
				t.Fatalf("%+v in %+v: %+v, %d", l, of, v, e)
			}
		}
	}
}
