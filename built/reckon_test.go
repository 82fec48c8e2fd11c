package built_test

import (
	"math/big"
	"math/rand"
	"strings"
	"testing"

	"ironbark/api"
	"ironbark/built"
	"ironbark/conv"
	"ironbark/rule"
)

// A second reckoning of types and values, by fractions and plain texts.

func raised(base, n int) *big.Int {
	return new(big.Int).Exp(big.NewInt(int64(base)), big.NewInt(int64(n)), nil)
}

// tenTo is a power of ten, below 1 too.
func tenTo(n int) *big.Rat {
	if n < 0 {
		return new(big.Rat).SetFrac(big.NewInt(1), raised(10, -n))
	}
	return new(big.Rat).SetInt(raised(10, n))
}

func plain(n int) *big.Rat { return new(big.Rat).SetInt64(int64(n)) }

func plus(x, y *big.Rat) *big.Rat { return new(big.Rat).Add(x, y) }

func minus(x, y *big.Rat) *big.Rat { return new(big.Rat).Sub(x, y) }

func times(x, y *big.Rat) *big.Rat { return new(big.Rat).Mul(x, y) }

func over(x, y *big.Rat) *big.Rat { return new(big.Rat).Quo(x, y) }

// fraction is a number as it is.
func fraction(v api.Value) *big.Rat {
	switch v.Kind {
	case api.TBin:
		return over(plain(v.N), new(big.Rat).SetInt(raised(2, v.Q)))
	case api.TDec:
		return times(plain(v.N), tenTo(-v.Q))
	}
	return times(plain(v.N), tenTo(v.Q))
}

func floorOf(x *big.Rat) *big.Rat {
	return new(big.Rat).SetInt(new(big.Int).Div(x.Num(), x.Denom()))
}

func ceilOf(x *big.Rat) *big.Rat { return new(big.Rat).Neg(floorOf(new(big.Rat).Neg(x))) }

func truncOf(x *big.Rat) *big.Rat {
	if x.Sign() < 0 {
		return ceilOf(x)
	}
	return floorOf(x)
}

func modOf(x, y *big.Rat) *big.Rat { return minus(x, times(y, floorOf(over(x, y)))) }

// reckoned is a value with a condition or none.
type reckoned struct {
	value api.Value
	cond  int
}

// broughtTo is a fraction brought to a type of numbers: large is the condition of one that is too large, half what is added ahead of the cut.
func broughtTo(x *big.Rat, t api.Type, large int, half *big.Rat) reckoned {
	if t.Kind == api.TFloat {
		return broughtToFloat(x, t.P)
	}
	base := map[int]int{api.TBin: 2, api.TDec: 10}[t.Kind]
	scaled := times(new(big.Rat).Abs(x), new(big.Rat).SetInt(raised(base, t.Q)))
	n, low := floorOf(plus(scaled, half)).Num(), new(big.Int)
	low.Mod(n, raised(base, t.P))
	told := reckoned{api.Value{Kind: t.Kind, N: x.Sign() * int(low.Int64()), Q: t.Q}, 0}
	if n.Cmp(low) != 0 {
		told.cond = large
	}
	return told
}

func broughtToFloat(x *big.Rat, p int) reckoned {
	zero := api.Value{Kind: api.TFloat}
	if x.Sign() == 0 {
		return reckoned{zero, 0}
	}
	magnitude := new(big.Rat).Abs(x)
	q := len(x.Num().String()) - len(x.Denom().String()) - p - 2 // a little too low
	for magnitude.Cmp(tenTo(q+p)) >= 0 {
		q++
	}
	n := floorOf(plus(times(magnitude, tenTo(-q)), big.NewRat(1, 2))).Num().Int64()
	for n%10 == 0 {
		n /= 10
		q++
	}
	exponent := q + len(big.NewInt(n).String()) - 1
	switch {
	case exponent > api.MaxExp:
		return reckoned{zero, api.COverflow}
	case exponent < -api.MaxExp:
		return reckoned{zero, api.CUnderflow}
	}
	return reckoned{vfloat(x.Sign()*int(n), q), 0}
}

// cutTo is a text brought to a type of strings.
func cutTo(s string, t api.Type) reckoned {
	told := reckoned{api.Value{Kind: t.Kind, S: s}, 0}
	if len(s) > t.N {
		told = reckoned{api.Value{Kind: t.Kind, S: s[:t.N]}, api.CStringSize}
	}
	for !t.Vary && len(told.value.S) < t.N {
		told.value.S += map[int]string{api.TChar: " ", api.TBit: "0"}[t.Kind]
	}
	return told
}

func isString(t api.Type) bool { return t.Kind == api.TChar || t.Kind == api.TBit }

func numberOf(t api.Type) api.Type {
	of, _ := rule.Number(t)
	return of
}

// asStrings is a type as one of strings of a kind.
func asStrings(kind int, t api.Type) api.Type {
	n, _ := conv.Length(t, api.Type{Kind: kind})
	return api.Type{Kind: kind, N: n, Vary: t.Vary}
}

func textOf(t api.Type) api.Type {
	if isString(t) {
		return t
	}
	return asStrings(api.TChar, t)
}

// countsAs is the type that an argument counts as in a call with a type of the result.
func countsAs(name string, l []typed, at int, result api.Type) api.Type {
	of := l[at].of
	if takesCount(name, at) {
		return tbin(31, 0)
	}
	switch name {
	case "LENGTH", "SUBSTR", "REPEAT", "COPY", "REVERSE", "STRING":
		return textOf(of)
	case "INDEX", "VERIFY":
		if l[0].of.Kind == api.TBit && l[1].of.Kind == api.TBit {
			return of
		}
		return asStrings(api.TChar, of)
	case "TRANSLATE":
		return asStrings(api.TChar, of)
	case "BOOL":
		if at == 2 {
			return tbit(4)
		}
		return asStrings(api.TBit, of)
	case "CHAR", "BIT":
		return result
	}
	return numberOf(of)
}

// counted is what the arguments count, and the first condition of that.
func counted(name string, l []typed, result api.Type) (values []api.Value, raise api.Raise) {
	for at, v := range l {
		w, r, _ := conv.Convert(v.Value, v.of, countsAs(name, l, at, result))
		values = append(values, w)
		if raise.Cond == 0 {
			raise = r
		}
	}
	return values, raise
}

// reckonedCall is what Call tells.
func reckonedCall(name string, l []typed, result api.Type) (api.Value, api.Raise) {
	values, raise := counted(name, l, result)
	var told reckoned
	switch {
	case !isString(result) && isString(countsAs(name, l, 0, result)):
		told = broughtTo(plain(foundIn(name, values)), result, api.CSize, plain(0))
	case isString(result):
		told = textCall(name, values, result)
	default:
		told = numberCall(name, values, result)
	}
	if raise.Cond == 0 {
		raise = cond(told.cond)
	}
	return told.value, raise
}

// foundIn is the place or length that a function tells.
func foundIn(name string, values []api.Value) int {
	s := values[0].S
	switch name {
	case "INDEX":
		if s == "" || values[1].S == "" {
			return 0
		}
		return strings.Index(s, values[1].S) + 1
	case "VERIFY":
		for at := range s {
			if !strings.Contains(values[1].S, s[at:at+1]) {
				return at + 1
			}
		}
		return 0
	}
	return len(s)
}

func numberCall(name string, values []api.Value, t api.Type) reckoned {
	x := fraction(values[0])
	y := x
	if len(values) > 1 {
		y = fraction(values[1])
	}
	fit := func(x *big.Rat) reckoned { return broughtTo(x, t, api.CSize, plain(0)) }
	reckon := func(x *big.Rat) reckoned { return broughtTo(x, t, api.CFixedOverflow, plain(0)) }
	switch name {
	case "ABS":
		return fit(new(big.Rat).Abs(x))
	case "SIGN":
		return fit(plain(x.Sign()))
	case "FLOOR":
		return fit(floorOf(x))
	case "CEIL":
		return fit(ceilOf(x))
	case "TRUNC":
		return fit(truncOf(x))
	case "ROUND":
		return broughtTo(x, t, api.CSize, big.NewRat(1, 2))
	case "MAX", "MIN":
		wanted := map[string]int{"MAX": 1, "MIN": -1}[name]
		for _, v := range values {
			if fraction(v).Cmp(x) == wanted {
				x = fraction(v)
			}
		}
		return fit(x)
	case "ADD":
		return reckon(plus(x, y))
	case "SUBTRACT":
		return reckon(minus(x, y))
	case "MULTIPLY":
		return reckon(times(x, y))
	case "DIVIDE", "MOD":
		switch {
		case y.Sign() == 0:
			return reckoned{fit(plain(0)).value, api.CZeroDivide}
		case name == "MOD":
			return fit(modOf(x, y))
		}
		return reckon(over(x, y))
	}
	return fit(x) // FIXED, BINARY, DECIMAL, FLOAT
}

func textCall(name string, values []api.Value, t api.Type) reckoned {
	made := ""
	told := 0
	s := values[0].S
	switch name {
	case "SUBSTR":
		made, told = partOf(s, values[1:])
	case "TRANSLATE":
		for at := range s {
			made += itemFor(s[at:at+1], values[1].S, values[2].S)
		}
	case "REPEAT":
		made, told = oftenOf(s, max(values[1].N, 0)+1)
	case "COPY":
		made, told = oftenOf(s, values[1].N)
	case "HIGH":
		made, told = oftenOf("~", values[0].N)
	case "LOW":
		made, told = oftenOf(" ", values[0].N)
	case "REVERSE":
		for at := range s {
			made = s[at:at+1] + made
		}
	case "BOOL":
		for at := range max(len(s), len(values[1].S)) {
			made += values[2].S[2*bitAt(s, at)+bitAt(values[1].S, at):][:1]
		}
	default: // CHAR, BIT, STRING
		made = s
	}
	end := cutTo(made, t)
	if told != 0 {
		end.cond = told
	}
	return end
}

func bitAt(s string, at int) int {
	if at < len(s) && s[at] == '1' {
		return 1
	}
	return 0
}

// itemFor is what becomes of an item.
func itemFor(item, to, from string) string {
	at := strings.Index(from, item)
	switch {
	case at < 0:
		return item
	case at >= len(to):
		return " "
	}
	return to[at : at+1]
}

// oftenOf is a text so often, at most as long as a string.
func oftenOf(s string, n int) (string, int) {
	made := ""
	for range n {
		if s == "" {
			break
		}
		if made += s; len(made) > api.MaxLen {
			return made[:api.MaxLen], api.CStringSize
		}
	}
	return made, 0
}

// partOf is the places that a part has of a text, told one by one.
func partOf(s string, l []api.Value) (made string, told int) {
	from := l[0].N
	many := len(s) - from + 1
	if len(l) > 1 {
		many = l[1].N
	}
	if from < 1 || many < 0 || from+many-1 > len(s) {
		told = api.CStringRange
	}
	for place := 1; place <= len(s); place++ {
		if from <= place && place <= from+many-1 {
			made += s[place-1 : place]
		}
	}
	return made, told
}

// Values of any arguments, in the type of the result and in others of its kind.
func TestCallsBySecondReckoning(t *testing.T) {
	r := rand.New(rand.NewSource(8))
	seen := map[int]int{}
	for _, f := range functions() {
		for range 3000 {
			l := someArguments(r, f)
			values, types := parted(l)
			of, e := built.Result(f.name, types, values)
			switch is := true; {
			case e == api.ErrRange:
				if of, is = typeOfKind(r, f, l); !is {
					continue
				}
			case e != api.OK:
				t.Fatalf("Result(%q, %+v) = %d", f.name, l, e)
			case r.Intn(2) == 0:
				of = someTypeOf(r, of.Kind)
			}
			value, raise := reckonedCall(f.name, l, of)
			checkTold(t, told{f.name, l, of, value, raise})
			seen[raise.Cond]++
		}
	}
	for _, cond := range []int{0, api.CConversion, api.CFixedOverflow, api.COverflow, api.CSize, api.CStringRange, api.CStringSize, api.CUnderflow, api.CZeroDivide} {
		if seen[cond] < 50 {
			t.Errorf("conditions: %v", seen)
		}
	}
}

// typeOfKind is a type of the kind of the result, whatever p, q and n are; none if all of them are out of range.
func typeOfKind(r *rand.Rand, f function, l []typed) (of api.Type, is bool) {
	_, types := parted(l)
	kind := someKindOf(f, types, func(of api.Type) []api.Value {
		var values []api.Value
		for n := range 3 {
			values = append(values, countingOf(n, of)...)
		}
		return values
	})
	if kind == 0 {
		return api.Type{}, false
	}
	return someTypeOf(r, kind), true
}

// inRange is a type, or none where it is not valid.
func inRange(t api.Type) api.Type {
	greatest := map[int]int{api.TBin: 31, api.TDec: 15, api.TFloat: 15}[t.Kind]
	if isString(t) && (t.N < 0 || t.N > 250) || !isString(t) && (t.P < 1 || t.P > greatest || t.Q < 0 || t.Q > 31) {
		return api.Type{}
	}
	return t
}

// reckonedType is what Result tells, without an error where none but ErrRange may be.
func reckonedType(name string, l []typed) api.Type {
	x := numberOf(l[0].of)
	n := make([]int, 4)
	for at, v := range l {
		if at < 4 && takesCount(name, at) {
			w, _, _ := conv.Convert(v.Value, v.of, tbin(31, 0))
			n[at] = w.N
		}
	}
	s := textOf(l[0].of)
	switch name {
	case "ABS":
		return x
	case "FLOOR", "CEIL", "TRUNC", "ROUND":
		return wholeType(x, n[1], name == "ROUND")
	case "MOD", "MAX", "MIN":
		return commonType(l)
	case "ADD", "SUBTRACT", "MULTIPLY", "DIVIDE":
		return shapedType(commonType(l[:2]).Kind, n[2], n[3])
	case "FIXED", "BINARY", "DECIMAL", "FLOAT":
		of := typeInABase(name, x)
		if len(l) > 1 {
			of = shapedType(of.Kind, n[1], n[2])
		}
		return of
	case "SUBSTR":
		return vary(s)
	case "TRANSLATE":
		return asStrings(api.TChar, l[0].of)
	case "REPEAT", "COPY":
		return api.Type{Kind: s.Kind, N: 250, Vary: true}
	case "REVERSE", "STRING":
		return s
	case "BOOL":
		return vary(tbit(max(asStrings(api.TBit, l[0].of).N, asStrings(api.TBit, l[1].of).N)))
	case "CHAR", "BIT":
		of := api.Type{Kind: map[string]int{"CHAR": api.TChar, "BIT": api.TBit}[name], N: n[1]}
		if len(l) == 1 {
			of.N = asStrings(of.Kind, l[0].of).N
		}
		return of
	case "HIGH", "LOW":
		return tchar(n[0])
	}
	return tbin(31, 0)
}

func commonType(l []typed) api.Type {
	var numbers []api.Type
	for _, v := range l {
		numbers = append(numbers, numberOf(v.of))
	}
	of, _ := rule.Common(numbers)
	return of
}

func shapedType(kind, p, q int) api.Type {
	if kind == api.TFloat {
		q = 0
	}
	return api.Type{Kind: kind, P: p, Q: q}
}

func wholeType(x api.Type, n int, rounded bool) api.Type {
	most := map[int]int{api.TBin: 31, api.TDec: 15}[x.Kind]
	switch {
	case x.Kind != api.TFloat:
		return api.Type{Kind: x.Kind, P: min(most, max(1, x.P-x.Q+1+n)), Q: n}
	case rounded:
		return tfloat(n)
	}
	return x
}

func typeInABase(name string, x api.Type) api.Type {
	if name == "FLOAT" {
		of, _ := rule.Float(x)
		return of
	}
	if x.Kind == api.TFloat {
		x = tdec(x.P, 0)
	}
	of := x
	switch name {
	case "BINARY":
		of, _ = rule.Binary(x)
	case "DECIMAL":
		of, _ = rule.Decimal(x)
	}
	return of
}

func TestResultsBySecondReckoning(t *testing.T) {
	r := rand.New(rand.NewSource(9))
	for _, f := range functions() {
		for range 3000 {
			l := someArguments(r, f)
			values, types := parted(l)
			want, wanted := inRange(reckonedType(f.name, l)), api.OK
			if want == (api.Type{}) {
				wanted = api.ErrRange
			}
			if of, e := built.Result(f.name, types, values); of != want || e != wanted {
				t.Fatalf("Result(%q, %+v) = %+v, %d; want %+v, %d", f.name, l, of, e, want, wanted)
			}
		}
	}
}
