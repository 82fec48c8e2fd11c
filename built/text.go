package built

import (
	"strings"

	"ironbark/api"
	"ironbark/bits"
)

func length(w work) api.Value { return w.count(len(w.args[0].S)) }

// part is so many places of a string from one on, or all of them.
func part(w work) api.Value {
	s, from := w.args[0], w.args[1].N
	if len(w.args) == 2 {
		return w.fitted(w.taken(bits.Rest(s, near(from))))
	}
	// Places ahead of 0 go first: were both numbers only brought near, a long part from far ahead of s would end elsewhere.
	many := w.args[2].N + min(from, 0)
	return w.fitted(w.taken(bits.Sub(s, near(max(from, 0)), near(many))))
}

// near is a number that layer bits takes. The greater ones, on either side, are as far beyond any string.
func near(n int) int { return bounded(n, -api.MaxCount, api.MaxCount) }

func index(w work) api.Value { return w.count(told(bits.Index(w.args[0], w.args[1]))) }

func verify(w work) api.Value { return w.count(told(bits.Verify(w.args[0], w.args[1]))) }

func translated(w work) api.Value {
	return w.fitted(told(bits.Translate(w.args[0], w.args[1], w.args[2])))
}

func repeated(w work) api.Value { return w.times(w.args[0], max(w.args[1].N, 0)+1) }

func copied(w work) api.Value { return w.times(w.args[0], w.args[1].N) }

// all is one character as often as is asked for.
func all(same string) func(w work) api.Value {
	return func(w work) api.Value {
		return w.times(api.Value{Kind: api.TChar, S: same}, w.args[0].N)
	}
}

// times is a string so many times, cut to what a string may have.
func (w work) times(s api.Value, n int) api.Value {
	// A string that is not empty is too long already with one time more than a string may have bytes.
	text := strings.Repeat(s.S, bounded(n, 0, api.MaxLen+1))
	if len(text) > api.MaxLen {
		text = text[:api.MaxLen]
		w.meet(api.Raise{Cond: api.CStringSize})
	}
	return w.fitted(api.Value{Kind: s.Kind, S: text})
}

func reversed(w work) api.Value { return w.fitted(told(bits.Reverse(w.args[0]))) }

func combined(w work) api.Value {
	return w.fitted(told(bits.Bool(w.args[0], w.args[1], w.args[2].S)))
}
