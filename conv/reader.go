package conv

import (
	"strings"

	"ironbark/api"
)

const (
	blank          = " "
	signs          = "+-"
	decimalDigits  = "0123456789"
	binaryDigits   = "01"
	point          = "."
	binaryMark     = "B"
	exponentMark   = "E"
	exponentDigits = 2 // at the most
)

// text is the bytes that a reader reads.
type text string

// has reports whether one of some bytes stands at a place.
func (t text) has(some string, at int) bool {
	return at < len(t) && strings.IndexByte(some, t[at]) >= 0
}

// reader goes over its text from byte to byte.
type reader struct {
	text
	at int // the next one
}

// numeral reads all of the text; false if there are blanks alone.
func (r *reader) numeral() (numeral, bool) {
	r.run(blank, len(r.text))
	if r.isOver() {
		return numeral{}, false
	}
	n := numeral{kind: api.TDec, negative: r.sign(), begin: r.at}
	n.whole, n.fraction = r.pointed()
	n.mark = r.at
	switch {
	case isBinary(n.whole+n.fraction) && r.takes(binaryMark):
		n.kind = api.TBin
	case r.takes(exponentMark):
		n.kind, n.exponent = api.TFloat, r.exponent()
	}
	r.run(blank, len(r.text))
	if !r.isOver() {
		r.stop()
	}
	return n, true
}

// pointed goes over digits with at most one point among them.
func (r *reader) pointed() (whole, fraction string) {
	whole = r.run(decimalDigits, len(r.text))
	if r.takes(point) {
		fraction = r.run(decimalDigits, len(r.text))
	}
	if whole+fraction == "" {
		r.stop()
	}
	return whole, fraction
}

// exponent goes over what stands behind an E.
func (r *reader) exponent() int {
	negative := r.sign()
	found := r.run(decimalDigits, exponentDigits)
	if found == "" {
		r.stop()
	}
	if negative {
		return -natural(found, 10)
	}
	return natural(found, 10)
}

// sign goes over a sign, if there is one, and reports whether it is a `-`.
func (r *reader) sign() (negative bool) {
	at := r.at
	return r.takes(signs) && r.has("-", at)
}

// run goes over bytes of some, at most so many, and returns them.
func (r *reader) run(some string, most int) string {
	begin := r.at
	for r.at-begin < most && r.takes(some) {
	}
	return string(r.text[begin:r.at])
}

// takes goes over a byte, if it is one of some.
func (r *reader) takes(some string) bool {
	is := r.has(some, r.at)
	if is {
		r.at++
	}
	return is
}

func (r *reader) isOver() bool { return r.at == len(r.text) }

// stop leaves the text where the reader stands.
func (r *reader) stop() { panic(stop(r.at)) }

func isBinary(digits string) bool { return strings.Trim(digits, binaryDigits) == "" }
