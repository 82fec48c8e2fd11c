package bits

import (
	"cmp"
	"strings"

	"ironbark/api"
)

// asked reports of a place, counted from 0 on, whether it is wanted.
type asked func(at int) bool

// least is the least wanted place of s, counted from 1 on; 0 if there is none.
func least(s api.Value, wanted asked) int {
	for at := range len(s.S) {
		if wanted(at) {
			return at + 1
		}
	}
	return 0
}

// many is how many places of s are wanted.
func many(s api.Value, wanted asked) int {
	n := 0
	for at := range len(s.S) {
		if wanted(at) {
			n++
		}
	}
	return n
}

// begins reports where p begins in s. A p without items begins nowhere.
func begins(s, p api.Value) asked {
	return func(at int) bool { return p.S != "" && strings.HasPrefix(s.S[at:], p.S) }
}

// isIn reports where the item of s is in a set.
func isIn(s, set api.Value) asked {
	return func(at int) bool { return placeOf(s.S[at], set) >= 0 }
}

func not(wanted asked) asked {
	return func(at int) bool { return !wanted(at) }
}

// placeOf is the least place of an item in s, counted from 0 on; -1 if it is not there.
func placeOf(item byte, s api.Value) int { return strings.IndexByte(s.S, item) }

// translated tells the items of s, each one that is in from as the one of to at its place there.
func translated(s, to, from api.Value) teller {
	becomes := filled(to)
	return func(at int) byte {
		if place := placeOf(s.S[at], from); place >= 0 {
			return becomes(place)
		}
		return s.S[at]
	}
}

// compared is the order of two strings of one kind, each filled up to the length of the other one.
func compared(a, b api.Value) int {
	x, y := filled(a), filled(b)
	for at := range max(len(a.S), len(b.S)) {
		if order := cmp.Compare(x(at), y(at)); order != 0 {
			return order
		}
	}
	return 0
}
