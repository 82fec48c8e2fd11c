package bits

import "ironbark/api"

// taken is a string that is told, with a condition or none.
type taken struct {
	value api.Value
	cond  int
}

// part is the places of a string from a place on, so many.
type part struct{ from, many int }

// restFrom is the part of s from a place on.
func restFrom(s api.Value, from int) part { return part{from, len(s.S) - from + 1} }

// cond is the condition of a part that is not right in s.
func (p part) cond(s api.Value) int {
	if p.from >= 1 && p.many >= 0 && p.from+p.many-1 <= len(s.S) {
		return 0
	}
	return api.CStringRange
}

// ends is where the places of a part that s has begin and end, counted from 0 on.
func (p part) ends(s api.Value) (begin, end int) {
	within := func(at int) int { return min(max(at, 0), len(s.S)) }
	begin = within(p.from - 1)
	end = within(p.from - 1 + p.many)
	return begin, max(begin, end)
}

func (p part) of(s api.Value) taken {
	begin, end := p.ends(s)
	return taken{api.Value{Kind: s.Kind, S: s.S[begin:end]}, p.cond(s)}
}

// set is s with the items of v in a part. They are told place by place, because the part may be far longer than a string.
func (p part) set(s, v api.Value) taken {
	begin, end := p.ends(s)
	source := filled(v)
	told := func(at int) byte {
		if at < begin || at >= end {
			return s.S[at]
		}
		return source(at - (p.from - 1))
	}
	return taken{like(s, len(s.S), told), p.cond(s)}
}

// fitted is a string brought to a type of its kind.
func fitted(v api.Value, t api.Type) taken {
	length, cond := t.N, 0
	if t.Vary {
		length = min(len(v.S), t.N)
	}
	if len(v.S) > t.N {
		cond = api.CStringSize
	}
	return taken{like(v, length, filled(v)), cond}
}
