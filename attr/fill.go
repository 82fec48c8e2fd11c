package attr

import (
	"iter"
	"slices"

	"ironbark/api"
)

// filled is a right set with what rules, and the system behind them, give to a name.
func filled(s api.Set, name string, rules []api.Default) api.Set {
	d := draftOf(s)
	for given := range counting(rules, name) {
		d.take(given)
	}
	for _, give := range defaults() {
		give(d, name)
	}
	return d.Set
}

// isFilled reports whether a right set has all that the system gives. The name is no matter: it counts only for what has no data words, to which any name gives some.
func isFilled(s api.Set) bool {
	whole := filled(s, "X", nil)
	return slices.Equal(whole.Words, s.Words) && whole.HasP == s.HasP && whole.HasQ == s.HasQ && whole.HasN == s.HasN
}

// counting is the sets of the rules that count for a name, one after the other.
func counting(rules []api.Default, name string) iter.Seq[api.Set] {
	return func(yield func(api.Set) bool) {
		for _, d := range rules {
			if d.Low <= beginning(name, d.Low) && beginning(name, d.High) <= d.High && !yield(d.Set) {
				return
			}
		}
	}
}

// beginning is as many of a name's first bytes as a bound has.
func beginning(name, bound string) string { return name[:min(len(name), len(bound))] }

// take adds of a rule's set what goes together with what is there.
func (d *draft) take(given api.Set) {
	for _, word := range given.Words {
		d.add(word)
	}
	if given.HasP && !d.HasP && d.mayHavePrecision() {
		d.HasP, d.P = true, given.P
		if given.HasQ && d.mayHaveScale() {
			d.HasQ, d.Q = true, given.Q
		}
	}
	if given.HasN && !d.HasN && d.is(letters) {
		d.HasN, d.N = true, given.N
	}
	if d.Pic == "" && d.is(picture) {
		d.Pic = given.Pic
	}
}

// defaults is what the system gives, in this order. The words that they add need no question: where they are not wanting, what is there bars them.
func defaults() []func(d *draft, name string) {
	return []func(d *draft, name string){
		giveData,
		func(d *draft, _ string) { d.add("DECIMAL") },
		giveScaling,
		givePrecision,
		giveScale,
		giveLength,
		func(d *draft, _ string) { d.add("AUTOMATIC") },
	}
}

// giveData makes a set without any data word one of numbers, by the name.
func giveData(d *draft, name string) {
	if d.is(data) {
		return
	}
	if 'I' <= name[0] && name[0] <= 'N' {
		d.add("BINARY")
		d.add("FIXED")
	} else {
		d.add("DECIMAL")
		d.HasQ, d.Q = false, 0 // without a scale it becomes FLOAT
	}
}

func giveScaling(d *draft, _ string) {
	if d.HasQ {
		d.add("FIXED")
	} else {
		d.add("FLOAT")
	}
}

func givePrecision(d *draft, _ string) {
	if d.is(numeric) && !d.HasP {
		d.HasP, d.P = true, usualPrecision(has(d.Set, "FIXED"), has(d.Set, "BINARY"))
	}
}

func usualPrecision(isFixed, isBinary bool) int {
	switch {
	case isFixed && isBinary:
		return 15
	case isFixed:
		return 5
	case isBinary:
		return 21
	}
	return 6
}

func giveScale(d *draft, _ string) {
	if has(d.Set, "FIXED") {
		d.HasQ = true
	}
}

func giveLength(d *draft, _ string) {
	if d.is(letters) && !d.HasN {
		d.HasN, d.N = true, 1
	}
}
