package conv

import (
	"strings"

	"ironbark/api"
	"ironbark/digit"
)

// nowhere is the place at which a right constant is wrong.
const nowhere = -1

// constant is what a text says: a number with its type; or, if at is a place, nothing, because it is wrong there.
type constant struct {
	value api.Value
	of    api.Type
	at    int
}

// stop is a place of a text, on its way out of what reads it: the text is wrong there.
type stop int

// constantOf reads a text. How it is written is asked before what it counts.
func constantOf(source string) (c constant) {
	defer func() {
		switch left := recover().(type) {
		case nil:
		case stop:
			c = constant{at: int(left)}
		default:
			panic(left)
		}
	}()
	r := reader{text: text(source)}
	if n, is := r.numeral(); is {
		return n.constant()
	}
	return constant{api.Value{Kind: api.TDec}, api.Type{Kind: api.TDec, P: 1}, nowhere}
}

// numeral is a constant as it is written: digits on both sides of a point, and, of a float, the exponent behind the E.
type numeral struct {
	kind            int
	negative        bool
	begin           int // where the digits begin
	whole, fraction string
	exponent, mark  int // mark: where the E stands
}

// constant is what a numeral counts to.
func (n numeral) constant() constant {
	n.askRoom()
	scale := len(n.fraction)
	counted := strings.TrimLeft(n.whole+n.fraction, "0")
	v := api.Value{Kind: n.kind, N: natural(counted, n.base()), Q: scale}
	t := api.Type{Kind: n.kind, P: max(1, len(counted)), Q: scale}
	if n.kind == api.TFloat {
		v = withoutZeros(api.Value{Kind: n.kind, N: v.N, Q: n.exponent - scale})
		t.Q = 0
	}
	if !digit.Right(v) {
		panic(stop(n.mark))
	}
	if n.negative {
		v.N = -v.N
	}
	return constant{v, t, nowhere}
}

// withoutZeros is a float without zeros at its end.
func withoutZeros(v api.Value) api.Value {
	if v.N == 0 {
		return api.Value{Kind: v.Kind}
	}
	for v.N%10 == 0 {
		v.N /= 10
		v.Q++
	}
	return v
}

func (n numeral) base() int {
	if n.kind == api.TBin {
		return 2
	}
	return 10
}

// askRoom stops at the first digit that is too many: for the precision, or, of a fixed number, for the scale.
func (n numeral) askRoom() {
	all := n.whole + n.fraction
	most := len(all) - len(strings.TrimLeft(all, "0")) + n.mostDigits()
	if n.kind != api.TFloat {
		most = min(most, len(n.whole)+api.MaxScale)
	}
	if len(all) > most {
		panic(stop(n.place(most)))
	}
}

func (n numeral) mostDigits() int {
	if n.kind == api.TBin {
		return api.MaxBin
	}
	return api.MaxDec
}

// place is where the digit stands that has so many ahead of it.
func (n numeral) place(ahead int) int {
	if ahead >= len(n.whole) {
		ahead++ // the point
	}
	return n.begin + ahead
}
