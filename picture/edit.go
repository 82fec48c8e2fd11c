package picture

import (
	"strconv"
	"strings"

	"ironbark/api"
	"ironbark/digit"
)

// digits are those of a number that are still to be shown.
type digits struct{ left string }

// take takes the next digit.
func (d *digits) take() string {
	next := d.left[:1]
	d.left = d.left[1:]
	return next
}

// editing is a number on its way through the symbols of a picture.
type editing struct {
	digits
	shape
	below bool // 0
	at    int  // the symbol that is shown
	on    bool // whether insertions are suppressed
	over  bool // whether a digit was shown
	first int  // where the first digit was shown
	text  strings.Builder
}

// edited is a number by a numeric picture, with the condition.
func (s shape) edited(v api.Value) (text string, cond int) {
	n, below, cond := s.fitted(v)
	if n == 0 && s.counts[nine] == 0 {
		return strings.Repeat(s.filler(), s.width()), cond
	}
	counted := strconv.Itoa(n)
	zeros := strings.Repeat("0", s.number().P-len(counted))
	e := editing{digits: digits{zeros + counted}, shape: s, below: below}
	for at := range len(s.row) {
		e.at = at
		here := s.symbol(at)
		here.show(&e, here)
	}
	return e.signed(), cond
}

// fitted is the digits of a number that have room as a number, whether the number is below 0 when it is cut, and the condition.
func (s shape) fitted(v api.Value) (n int, below bool, cond int) {
	t := s.number()
	fitted, cond, e := digit.Fit(v, t)
	demandOK(e)
	// The digits that have room may be all 0 where the number is not, so they do not tell.
	order, e := digit.Compare(v, api.Value{Kind: api.TDec, N: -1, Q: t.Q})
	demandOK(e)
	below = order <= 0
	if below && s.counts[sign] == 0 && s.counts[credit] == 0 {
		cond = api.CSize
	}
	return max(fitted.N, -fitted.N), below, cond
}

// showDigit shows the next digit, whatever it is.
func showDigit(e *editing, _ symbol) {
	if !e.over {
		e.first, e.over = e.text.Len(), true
	}
	e.text.WriteString(e.take())
	e.on = false
}

// showSuppressing shows a digit unless it leads, as a 0, ahead of V.
func showSuppressing(e *editing, s symbol) {
	if e.over || e.at > e.point || e.left[0] != '0' {
		showDigit(e, s)
		return
	}
	e.take()
	e.text.WriteString(e.filler())
	e.on = true
}

// showInsertion shows an insertion itself, if it is not suppressed with the digits around it.
func showInsertion(e *editing, s symbol) {
	if e.on || e.run.has(e.at) && !e.over {
		e.text.WriteString(e.filler())
		return
	}
	showFace(e, s)
}

// showPoint shows nothing.
func showPoint(e *editing, _ symbol) { e.on = false }

// showFace shows what a symbol shows of the number, whatever its digits are.
func showFace(e *editing, s symbol) { e.text.WriteString(s.faces.of(e.below)) }

// showSign shows a static sign. In a drifting run it shows a digit, or leaves its place, as the first symbol of the run does always.
func showSign(e *editing, s symbol) {
	switch {
	case !e.run.has(e.at):
		showFace(e, s)
	case e.at == e.run.first:
		e.text.WriteString(blank)
	default:
		showSuppressing(e, s)
	}
}

// signed is the text with the drifting sign put at its place. All ahead of the run's end has one byte a symbol, so that places of symbols are those of the text.
func (e *editing) signed() string {
	text := e.text.String()
	if e.run == noSpan() {
		return text
	}
	// A digit that is shown within the run is not its first symbol's, so that the place ahead of it is the run's, too.
	at := min(e.first-1, e.run.last)
	return text[:at] + e.symbol(e.run.first).faces.of(e.below) + text[at+1:]
}
