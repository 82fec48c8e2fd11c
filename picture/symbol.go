package picture

// kind is what a symbol does.
type kind int

const (
	nine        kind = iota // shows its digit always
	suppressing             // shows its digit or what it is filled with
	insertion               // shows itself
	point                   // shows nothing
	sign
	currency
	credit
	character // stands in pictures of characters alone
	kinds     // how many there are
)

const (
	blank    = " "
	asterisk = "*"
	figures  = "0123456789"
)

// faces is what a symbol shows of numbers that are not below 0, and of those that are.
type faces struct{ other, below string }

// always is the faces of a symbol that shows the same of all numbers.
func always(text string) faces { return faces{text, text} }

func (f faces) of(below bool) string {
	if below {
		return f.below
	}
	return f.other
}

// symbol is what a letter stands for. It has faces, if what it shows is no digit.
type symbol struct {
	kind  kind
	faces faces
	show  func(e *editing, s symbol)
}

// symbols are in a map by their letters; C stands for CR and D for DB.
func symbols() map[byte]symbol {
	return map[byte]symbol{
		'9': {kind: nine, show: showDigit},
		'Z': {kind: suppressing, show: showSuppressing},
		'*': {kind: suppressing, show: showSuppressing},
		'.': {insertion, always("."), showInsertion},
		',': {insertion, always(","), showInsertion},
		'/': {insertion, always("/"), showInsertion},
		'B': {insertion, always(blank), showInsertion},
		'V': {kind: point, show: showPoint},
		'S': {sign, faces{"+", "-"}, showSign},
		'+': {sign, faces{"+", blank}, showSign},
		'-': {sign, faces{blank, "-"}, showSign},
		'$': {currency, always("$"), showSign},
		'C': {credit, faces{blank + blank, "CR"}, showFace},
		'D': {credit, faces{blank + blank, "DB"}, showFace},
		'A': {kind: character},
		'X': {kind: character},
	}
}

// name is a symbol as it stands in the text of a picture: of two letters what it shows below 0, of others its letter.
func (s symbol) name(letter byte) string {
	if s.kind == credit {
		return s.faces.below
	}
	return string(letter)
}

// width is how many bytes of an edited text are a symbol's.
func (s symbol) width() int {
	switch s.kind {
	case point:
		return 0
	case credit:
		return len(s.faces.below)
	}
	return 1
}
