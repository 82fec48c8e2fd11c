package attr

import (
	"slices"

	"ironbark/api"
)

// longest is how many bytes a picture has at most.
const longest = 80

// draft is a set that is being made. Its words come by its closure alone, which keeps what they are.
type draft struct {
	api.Set
	add   func(word string) api.Errno
	there func() trait
}

// begun is a draft of an empty set.
func begun() *draft {
	var all trait
	known, d := words(), &draft{}
	d.there = func() trait { return all.and(trait{of: numbersOf(d.Set)}) }
	d.add = func(word string) api.Errno {
		one, is := known[word]
		there := d.there()
		switch {
		case !is:
			return api.ErrName
		case has(d.Set, word):
			return api.ErrDuplicate
		case !one.goesWith(there) || one.needs&^there.of != 0:
			return api.ErrKind
		}
		at, _ := slices.BinarySearch(d.Words, word)
		d.Words = slices.Insert(d.Words, at, word)
		all = all.and(one)
		return api.OK
	}
	return d
}

// draftOf is a draft of a right set.
func draftOf(s api.Set) *draft {
	d := begun()
	d.join(s)
	return d
}

func has(s api.Set, word string) bool { return slices.Contains(s.Words, word) }

// numbersOf is the groups of a set's numbers that may bar words.
func numbersOf(s api.Set) (of groups) {
	if s.HasP {
		of |= precision
	}
	if s.HasQ {
		of |= scale
	}
	return of
}

func (d *draft) is(some groups) bool { return d.there().of&some != 0 }

func (d *draft) mayHavePrecision() bool { return d.there().bars&precision == 0 }

func (d *draft) mayHaveScale() bool { return d.there().bars&scale == 0 }

// isRight reports whether a set's words can be added one after the other, as they stand, and its numbers and its picture then.
func isRight(s api.Set) bool {
	d := begun()
	for _, word := range s.Words {
		d.add(word)
	}
	return slices.Equal(d.Words, s.Words) && areIn(s) && d.mayHaveRest(s)
}

// areIn reports whether a set's numbers, and the length of its picture, are within their bounds.
func areIn(s api.Set) bool {
	return isIn(s.HasP, s.P, api.MaxBin) && isIn(s.HasQ, s.Q, api.MaxScale) && isIn(s.HasN, s.N, api.MaxLen) && len(s.Pic) <= longest
}

// isIn reports whether a number is from 0 to its greatest value, and 0 if it is not there.
func isIn(there bool, n, greatest int) bool { return n == 0 || there && 0 < n && n <= greatest }

// mayHaveRest reports whether the numbers and the picture of a set may be there with its words, which the draft has.
func (d *draft) mayHaveRest(s api.Set) bool {
	return (!s.HasP || d.mayHavePrecision()) &&
		(!s.HasQ || s.HasP && d.mayHaveScale()) &&
		(!s.HasN || d.is(letters)) &&
		(s.Pic != "") == d.is(picture)
}

// merged is sets as one.
func merged(l []api.Set) api.Set {
	d := begun()
	for _, s := range l {
		d.join(s)
	}
	return d.Set
}

// join adds all of a right set, or refuses it. A length and a picture need no question: their words, which come with them, have been added.
func (d *draft) join(s api.Set) {
	for _, word := range s.Words {
		demandOK(d.add(word))
	}
	if s.HasP {
		demand(!d.HasP, api.ErrDuplicate)
		demand(d.mayHavePrecision() && (!s.HasQ || d.mayHaveScale()), api.ErrKind)
		d.HasP, d.P, d.HasQ, d.Q = true, s.P, s.HasQ, s.Q
	}
	if s.HasN {
		d.HasN, d.N = true, s.N
	}
	if s.Pic != "" {
		d.Pic = s.Pic
	}
}

// more is a set with another word.
func more(s api.Set, word string) api.Set {
	d := draftOf(s)
	demandOK(d.add(word))
	demand(word != "PICTURE", api.ErrKind) // there is none without what it shows
	return d.Set
}

// storageOf is a set's word of storage, or nothing.
func storageOf(s api.Set) string {
	known := words()
	for _, word := range s.Words {
		if known[word].of&storage != 0 {
			return word
		}
	}
	return ""
}
