package picture

import (
	"strconv"
	"strings"
)

const (
	maxSymbols = 40
	minFactor  = 3 // fewer equal symbols are written out
)

// row is the symbols of a picture, each by its letter.
type row string

// text writes each symbol; equal ones one behind the other with a factor, if they are enough for one.
func (r row) text() string {
	var b strings.Builder
	known := symbols()
	for at := 0; at < len(r); {
		times := r.alike(at)
		name := known[r[at]].name(r[at])
		if times < minFactor {
			b.WriteString(strings.Repeat(name, times))
		} else {
			b.WriteString("(" + strconv.Itoa(times) + ")" + name)
		}
		at += times
	}
	return b.String()
}

// alike is how many equal symbols stand from a place on, as far as a factor goes.
func (r row) alike(at int) int {
	n := 1
	for n < maxFactor && at+n < len(r) && r[at+n] == r[at] {
		n++
	}
	return n
}

// width is how many bytes an edited text has.
func (r row) width() int {
	known, n := symbols(), 0
	for at := range len(r) {
		n += known[r[at]].width()
	}
	return n
}
