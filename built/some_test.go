package built_test

import (
	"math/rand"
	"strconv"

	"ironbark/api"
)

// someType is a type of numbers or of strings.
func someType(r *rand.Rand) api.Type {
	switch kind := 1 + r.Intn(5); kind {
	case api.TBin:
		return tbin(1+r.Intn(api.MaxBin), someScale(r))
	case api.TDec:
		return tdec(1+r.Intn(api.MaxDec), someScale(r))
	case api.TFloat:
		return tfloat(1 + r.Intn(api.MaxDec))
	default:
		return api.Type{Kind: kind, N: someLength(r), Vary: r.Intn(2) == 0}
	}
}

func someScale(r *rand.Rand) int { return []int{0, 0, r.Intn(8), r.Intn(api.MaxScale + 1)}[r.Intn(4)] }

func someLength(r *rand.Rand) int { return []int{r.Intn(6), r.Intn(40), r.Intn(251)}[r.Intn(3)] }

// someTypeOf is a type of a kind.
func someTypeOf(r *rand.Rand, kind int) api.Type {
	for {
		if of := someType(r); of.Kind == kind {
			return of
		}
	}
}

// someBelow is a number below a bound on either side of 0, often near the bound or 0.
func someBelow(r *rand.Rand, bound int) int {
	n := []int{0, bound - 1, r.Intn(bound), r.Intn(min(bound, 100))}[r.Intn(4)]
	if r.Intn(2) == 0 {
		return -n
	}
	return n
}

func tens(n int) int {
	if n == 0 {
		return 1
	}
	return 10 * tens(n-1)
}

func someItems(r *rand.Rand, items string, length int) string {
	s := make([]byte, length)
	for at := range s {
		s[at] = items[r.Intn(len(items))]
	}
	return string(s)
}

// someValue is a value of a type.
func someValue(r *rand.Rand, of api.Type) api.Value {
	switch of.Kind {
	case api.TBin:
		return vbin(someBelow(r, 1<<of.P), of.Q)
	case api.TDec:
		return vdec(someBelow(r, tens(of.P)), of.Q)
	case api.TFloat:
		return someFloat(r, of.P)
	}
	length := of.N
	if of.Vary {
		length = r.Intn(of.N + 1)
	}
	if of.Kind == api.TBit {
		return digits(someItems(r, []string{"01", "0001", "1"}[r.Intn(3)], length))
	}
	return text(someCharacters(r, length))
}

func someFloat(r *rand.Rand, p int) api.Value {
	n := someBelow(r, tens(p))
	if n == 0 {
		return vfloat(0, 0)
	}
	for n%10 == 0 {
		n /= 10
	}
	behind := len(strconv.Itoa(max(n, -n))) - 1
	q := []int{0, -r.Intn(p + 1), r.Intn(10) - 5, r.Intn(120) - 60, api.MaxExp - behind, -api.MaxExp - behind + r.Intn(3)}[r.Intn(6)]
	return vfloat(n, q)
}

// someCharacters are often a constant, or bits, or nearly so.
func someCharacters(r *rand.Rand, length int) string {
	of := []string{"01", "0123456789", "0123456789.E+-B ", " ", "ab", "a1 ~"}[r.Intn(6)]
	if length > 2 && r.Intn(2) == 0 {
		made := []string{"", "-", "+"}[r.Intn(3)] + someItems(r, "0123456789", 1+r.Intn(min(length-1, 12)))
		return many(" ", length-len(made)) + made
	}
	return someItems(r, of, length)
}

// someTyped is a value with its type.
func someTyped(r *rand.Rand) typed {
	of := someType(r)
	return typed{someValue(r, of), of}
}

// someCount is mostly a plain number, near those that there may be or far from them.
func someCount(r *rand.Rand) typed {
	switch r.Intn(8) {
	case 0:
		return someTyped(r)
	case 1:
		return whole(someBelow(r, 1<<33))
	case 2:
		return whole(someBelow(r, 1<<31))
	case 3:
		return whole(r.Intn(300) - 20)
	case 4:
		return upTo(9, chars([]string{"1", " 2 ", "-3", "4.9", "", "12"}[r.Intn(6)]))
	}
	return dec(r.Intn(16)+r.Intn(2), 2, 0)
}

// takesCount reports whether an argument of a function is a p, q or n.
func takesCount(name string, at int) bool {
	switch name {
	case "HIGH", "LOW":
		return true
	case "ROUND", "FIXED", "BINARY", "DECIMAL", "FLOAT", "SUBSTR", "REPEAT", "COPY", "CHAR", "BIT":
		return at > 0
	case "ADD", "SUBTRACT", "MULTIPLY", "DIVIDE":
		return at > 1
	}
	return false
}

// someArguments are as many as a function takes.
func someArguments(r *rand.Rand, f function) []typed {
	l := args()
	for at := range f.least + r.Intn(f.most-f.least+1) {
		switch {
		case takesCount(f.name, at):
			l = append(l, someCount(r))
		case at > 0 && r.Intn(3) == 0: // like the first one, so that they are found in one another
			l = append(l, typed{someValue(r, l[0].of), l[0].of})
		case at > 0 && r.Intn(6) == 0:
			l = append(l, l[0])
		default:
			l = append(l, someTyped(r))
		}
	}
	return l
}
