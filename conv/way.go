package conv

import (
	"iter"

	"ironbark/api"
	"ironbark/bits"
	"ironbark/digit"
)

// taken is a value that is told, with a condition or none.
type taken struct {
	value api.Value
	raise api.Raise
}

// way is from which type to which one a value is converted. Both are known.
type way struct{ from, to api.Type }

// step is what a value becomes on its way.
type step func(v api.Value, w way) taken

// group is the kinds to which values are converted alike.
type group int

const (
	numbers group = iota
	characters
	digits
	groups // how many there are
)

// groupOf is the group of a known type.
func groupOf(t api.Type) group {
	switch t.Kind {
	case api.TChar:
		return characters
	case api.TBit:
		return digits
	}
	return numbers
}

// conversion is how values of one kind are made ready to be fitted to the types of a group, and, where that makes a string of them, how long it is.
type conversion struct {
	ready  step
	length func(from api.Type) int
}

// conversions are in an array by kind, and there by the group of what is converted to.
func conversions() [api.TBit + 1][groups]conversion {
	return [...][groups]conversion{
		api.TBin:   {numbers: {ready: stay}, characters: {fieldOfBin, widthOfBin}, digits: {wholePart, bitsOfBin}},
		api.TDec:   {numbers: {ready: stay}, characters: {fieldOfDec, widthOfDec}, digits: {wholePart, bitsOfDec}},
		api.TFloat: {numbers: {ready: stay}, characters: {fieldOfFloat, widthOfFloat}, digits: {wholePart, bitsOfFloat}},
		api.TChar:  {numbers: {ready: readNumber}, characters: {stay, itsLength}, digits: {readBits, itsLength}},
		api.TBit:   {numbers: {ready: binaryNumber}, characters: {bitsAsCharacters, itsLength}, digits: {stay, itsLength}},
	}
}

func (w way) conversion() conversion { return conversions()[w.from.Kind][groupOf(w.to)] }

// ready is a value as it is before it is fitted.
func (w way) ready(v api.Value) taken { return w.conversion().ready(v, w) }

// length is how long a value is before it is fitted.
func (w way) length() int { return w.conversion().length(w.from) }

// steps are what a value goes through, one after the other.
func (w way) steps() iter.Seq[step] {
	return func(yield func(step) bool) {
		_ = yield(w.conversion().ready) && yield(fitted)
	}
}

// walked is a value at the end of its way. The first condition is told, but each step is done, with what was taken.
func (w way) walked(v api.Value) taken {
	end := taken{value: v}
	for does := range w.steps() {
		next := does(end.value, w)
		end.value = next.value
		if end.raise == (api.Raise{}) {
			end.raise = next.raise
		}
	}
	return end
}

// fitted is a value of the group converted to, brought to the type.
func fitted(v api.Value, w way) taken {
	fit := bits.Fit
	if groupOf(w.to) == numbers {
		fit = digit.Fit
	}
	got, cond, e := fit(v, w.to)
	demandOK(e)
	return taken{got, api.Raise{Cond: cond}}
}

// stay is a value as it is.
func stay(v api.Value, _ way) taken { return taken{value: v} }

// unconverted is what is taken for a text in which a byte can't be converted. It is of the type already, so that fitting it changes nothing.
func unconverted(text string, at int, w way) taken {
	zero, e := digit.Zero(w.to)
	demandOK(e)
	return taken{zero, api.Raise{Cond: api.CConversion, Source: text, At: at}}
}
