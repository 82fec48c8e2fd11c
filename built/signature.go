package built

import (
	"ironbark/api"
	"ironbark/bits"
	"ironbark/conv"
	"ironbark/rule"
)

// signature is what there is to know of a call without its arguments' values: their types, the type of the result (where it is told already), and what those arguments count that shape it.
type signature struct {
	types []api.Type
	to    api.Type
	count func(at int) int
}

// role is the type to which an argument is converted.
type role func(s signature, at int) api.Type

// number is a number's type; strings are what they count as.
func (s signature) number(at int) api.Type { return told(rule.Number(s.types[at])) }

// numbers is all arguments as numbers.
func (s signature) numbers() []api.Type {
	var l []api.Type
	for at := range s.types {
		l = append(l, s.number(at))
	}
	return l
}

// whole is the type of a count.
func (signature) whole(int) api.Type { return whole() }

func whole() api.Type { return api.Type{Kind: api.TBin, P: api.MaxBin} }

// text is a string's type; numbers are characters.
func (s signature) text(at int) api.Type {
	if isString(s.types[at]) {
		return s.types[at]
	}
	return s.characters(at)
}

func (s signature) characters(at int) api.Type { return s.asLong(api.TChar, at) }

func (s signature) digits(at int) api.Type { return s.asLong(api.TBit, at) }

// asLong is a type of a kind of strings that has room for all values of an argument's type.
func (s signature) asLong(kind, at int) api.Type {
	return api.Type{Kind: kind, N: lengthAs(kind, s.types[at]), Vary: s.types[at].Vary}
}

// alike is characters, unless all arguments are bits.
func (s signature) alike(at int) api.Type {
	for _, t := range s.types {
		if t.Kind != api.TBit {
			return s.characters(at)
		}
	}
	return s.types[at]
}

// operation is the type of a table of which layer bits makes two bits one.
func (signature) operation(int) api.Type { return api.Type{Kind: api.TBit, N: 4} }

// result is the type of the result itself.
func (s signature) result(int) api.Type { return s.to }

// countIfAny is what an argument counts, if there is one.
func (s signature) countIfAny(at int) int {
	if at >= len(s.types) {
		return 0
	}
	return s.count(at)
}

// countsOf tells what an argument counts that must be known, and refuses one that is not.
func countsOf(known []api.Value, types []api.Type) func(at int) int {
	return func(at int) int {
		demand(at < len(known) && isKnown(known[at]), api.ErrState)
		// With a condition it counts as what is taken: it is the call that raises it.
		v, _, e := conv.Convert(known[at], types[at], whole())
		demandOK(e)
		return v.N
	}
}

// likeliest is what the values of arguments may count of which a valid type comes, if one comes of any: 1, or 0 where all values count 0. A precision is from 1 on; a scale or a length may be either.
func likeliest(types []api.Type) func(at int) int {
	return func(at int) int {
		if reachesOne(types[at]) {
			return 1
		}
		return 0
	}
}

// reachesOne reports whether a value of a type counts 1: of strings all but the empty one have room for it, and numbers that have a digit ahead of the point.
func reachesOne(t api.Type) bool {
	if isString(t) {
		return t.N > 0
	}
	return t.P > t.Q
}

func isKnown(v api.Value) bool { return v.Kind != 0 }

func isString(t api.Type) bool { return bits.ValidType(t) }

// lengthAs is how long a value of a type is as a string of a kind.
func lengthAs(kind int, from api.Type) int {
	return told(conv.Length(from, api.Type{Kind: kind}))
}
