package picture

import (
	"strings"

	"ironbark/api"
)

// span is places from the first one to the last one.
type span struct{ first, last int }

func (s span) has(at int) bool { return s.first <= at && at <= s.last }

// noSpan has no place.
func noSpan() span { return span{0, -1} }

// shape is the symbols of a numeric picture, with what its rules ask of them.
type shape struct {
	row
	known  map[byte]symbol
	counts [kinds]int
	run    span // the drifting one
	point  int  // where V stands, behind all symbols if there is none
}

func shapeOf(r row) shape {
	s := shape{row: r, known: symbols(), run: noSpan(), point: len(r)}
	for at := range len(r) {
		s.counts[s.symbol(at).kind]++
	}
	if runs := r.runs(); len(runs) > 0 {
		s.run = runs[0]
	}
	if at := strings.IndexByte(string(r), 'V'); at >= 0 {
		s.point = at
	}
	return s
}

// runs are from the first to the last of each symbol that drifts, because there are two and more of it.
func (r row) runs() []span {
	var runs []span
	for _, letter := range []byte(drifting) {
		first, last := strings.IndexByte(string(r), letter), strings.LastIndexByte(string(r), letter)
		if first < last {
			runs = append(runs, span{first, last})
		}
	}
	return runs
}

// symbol is what stands at a place.
func (s shape) symbol(at int) symbol { return s.known[s.row[at]] }

// isDigit reports whether a digit symbol stands at a place.
func (s shape) isDigit(at int) bool {
	switch s.symbol(at).kind {
	case nine, suppressing:
		return true
	case sign, currency:
		return s.run.has(at) && at > s.run.first
	}
	return false
}

// digitsFrom is how many digit symbols there are from a place on.
func (s shape) digitsFrom(from int) int {
	n := 0
	for at := from; at < len(s.row); at++ {
		if s.isDigit(at) {
			n++
		}
	}
	return n
}

// number is the type of the picture's numbers.
func (s shape) number() api.Type {
	return api.Type{Kind: api.TDec, P: s.digitsFrom(0), Q: s.digitsFrom(s.point)}
}

// filler is what stands in the place of what is not shown.
func (s shape) filler() string {
	if strings.Contains(string(s.row), asterisk) {
		return asterisk
	}
	return blank
}
