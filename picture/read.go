package picture

import (
	"strings"

	"ironbark/api"
)

// read is the number from which a text is edited; if there is none, zero and the place at which the text is wrong.
func (s shape) read(text string) (api.Value, int) {
	for _, v := range s.candidates(text) {
		if edited, cond := s.edited(v); edited == text && cond == 0 {
			return v, nowhere
		}
	}
	return api.Value{}, s.wrong(text)
}

// candidates are the numbers of the picture's type that have the digits of a text.
func (s shape) candidates(text string) []api.Value {
	t := s.number()
	n, digits := 0, 0
	for at := range len(text) {
		if isFigure(text[at]) {
			n = 10*n + int(text[at]-'0')
			digits++
		}
		if digits > t.P {
			return nil
		}
	}
	return []api.Value{{Kind: t.Kind, N: n, Q: t.Q}, {Kind: t.Kind, N: -n, Q: t.Q}}
}

// wrong is where a text is wrong from which no number is read.
func (s shape) wrong(text string) int {
	may := s.may()
	for at := range min(len(text), len(may)) {
		if strings.IndexByte(may[at], text[at]) < 0 {
			return at + 1
		}
	}
	if len(text) != len(may) {
		return uneven(text, len(may))
	}
	return 1
}

// may is, for each byte of an edited text, what it may be by its symbol alone.
func (s shape) may() []string {
	anywhere := ""
	if s.counts[nine] == 0 {
		anywhere = s.filler()
	}
	var places []string
	for at := range len(s.row) {
		here := s.symbol(at)
		shows := s.shows(at)
		for part := range here.width() {
			places = append(places, here.faces.part(part)+shows+anywhere)
		}
	}
	return places
}

// shows is what a symbol may show beside its own faces.
func (s shape) shows(at int) string {
	switch here := s.symbol(at); here.kind {
	case nine:
		return figures
	case suppressing:
		return figures + s.filler()
	case insertion:
		return s.shownForInsertion(at)
	case sign, currency:
		if s.run.has(at) {
			return figures + blank
		}
	}
	return ""
}

// shownForInsertion is what may be shown for an insertion: what is filled in if the picture suppresses digits, and within the drifting run its sign.
func (s shape) shownForInsertion(at int) string {
	shown := ""
	if s.counts[suppressing] > 0 || s.run != noSpan() {
		shown = s.filler()
	}
	if s.run.has(at) {
		shown += s.symbol(s.run.first).faces.part(0)
	}
	return shown
}

// part is a byte of faces, of all that have one.
func (f faces) part(at int) string {
	part := ""
	for _, face := range []string{f.other, f.below} {
		if at < len(face) {
			part += face[at : at+1]
		}
	}
	return part
}
