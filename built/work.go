package built

import (
	"iter"

	"ironbark/api"
	"ironbark/bits"
	"ironbark/conv"
	"ironbark/digit"
)

// taken is a value that is told, with a condition or none.
type taken struct {
	value api.Value
	raise api.Raise
}

// work is a call's arguments as what they count, the type to which its value is brought, and what its conditions meet.
type work struct {
	args []api.Value
	to   api.Type
	meet func(r api.Raise)
}

// called is a function's value, and the first condition.
func (f row) called(args []api.Value, s signature) taken {
	meet, met := firstMet()
	w := work{to: s.to, meet: meet}
	for v, r := range f.converted(args, s) {
		meet(r)
		w.args = append(w.args, v)
	}
	v := f.value(w)
	return taken{v, met()}
}

// converted gives the arguments from the first one on, each as what the function takes it as.
func (f row) converted(args []api.Value, s signature) iter.Seq2[api.Value, api.Raise] {
	return func(yield func(api.Value, api.Raise) bool) {
		for at, v := range args {
			w, r, e := conv.Convert(v, s.types[at], f.role(at)(s, at))
			demandOK(e)
			if !yield(w, r) {
				return
			}
		}
	}
}

// firstMet returns what meets conditions, and what tells the first one that was met.
func firstMet() (meet func(r api.Raise), met func() api.Raise) {
	var first api.Raise
	meet = func(r api.Raise) {
		if first == (api.Raise{}) {
			first = r
		}
	}
	return meet, func() api.Raise { return first }
}

// taken is what a lower layer tells of right arguments, and its condition is met.
func (w work) taken(v api.Value, cond int, e api.Errno) api.Value {
	demandOK(e)
	w.meet(api.Raise{Cond: cond})
	return v
}

// fitted is a value brought to the type of the result.
func (w work) fitted(v api.Value) api.Value {
	if isString(w.to) {
		return w.taken(bits.Fit(v, w.to))
	}
	return w.taken(digit.Fit(v, w.to))
}

// count is how many there are, as the result.
func (w work) count(n int) api.Value {
	return w.fitted(api.Value{Kind: api.TBin, N: n})
}

// first is the first argument, which was converted already.
func first(w work) api.Value { return w.fitted(w.args[0]) }
