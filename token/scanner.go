package token

import (
	"strings"

	"ironbark/api"
)

// scanner goes over a source from byte to byte.
type scanner struct {
	text   string
	at     int // the next byte
	begin  int // where begins what it goes over
	tokens []api.Token
}

// wrong is the place at which a source is wrong, on its way out to what has it scanned.
type wrong int

// scanned is a source's tokens, or the place at which it is wrong.
func scanned(text string) (l []api.Token, at int, e api.Errno) {
	defer func() {
		switch left := recover().(type) {
		case nil:
		case wrong:
			l, at, e = nil, int(left), api.ErrSyntax
		default:
			l, at, e = nil, 0, api.ErrInvalid
		}
	}()
	s := scanner{text: text}
	ways := s.ways()
	for s.at < len(s.text) {
		s.begin = s.at
		ways[s.text[s.at]]()
	}
	return s.tokens, 0, api.OK
}

// ways are how to go over what begins with each byte.
func (s *scanner) ways() [256]func() {
	var table [256]func()
	blank, name, number, operator, other := s.blank, s.name, s.number, s.operator, s.refuse
	for b := range table {
		switch c := byte(b); {
		case isBlank(c):
			table[b] = blank
		case isDigit(c):
			table[b] = number
		case isOfName(c) && c != '_':
			table[b] = name
		case strings.IndexByte(operators, c) >= 0:
			table[b] = operator
		default:
			table[b] = other
		}
	}
	table['\''] = s.quoted
	table['.'] = s.point
	table['/'] = s.slash
	return table
}

// refuse leaves the source as wrong where that begins what the scanner goes over.
func (s *scanner) refuse() { panic(wrong(s.begin)) }

func (s *scanner) demand(is bool) {
	if !is {
		s.refuse()
	}
}

// next is the next byte; behind the text it is one that stands for nothing.
func (s *scanner) next() byte { return s.behind(0) }

// behind is the byte behind so many others.
func (s *scanner) behind(n int) byte {
	if s.at+n >= len(s.text) {
		return 0
	}
	return s.text[s.at+n]
}

// inside is the next byte of what must have an end.
func (s *scanner) inside() byte {
	s.demand(s.at < len(s.text))
	c := s.text[s.at]
	if !isPrinted(c) && !isBlank(c) {
		panic(wrong(s.at))
	}
	return c
}

// all goes over bytes of a class as far as they go, and returns them.
func (s *scanner) all(is func(c byte) bool) string {
	from := s.at
	for s.at < len(s.text) && is(s.text[s.at]) {
		s.at++
	}
	return s.text[from:s.at]
}

// skip goes over the next byte, if it is one of some.
func (s *scanner) skip(some string) bool {
	is := strings.IndexByte(some, s.next()) >= 0
	if is {
		s.at++
	}
	return is
}

// tell makes a token of what the scanner went over.
func (s *scanner) tell(kind int, text string) {
	s.tokens = append(s.tokens, api.Token{Kind: kind, Text: text, At: s.begin})
}

// raw is what the scanner went over, in great letters.
func (s *scanner) raw() string { return strings.ToUpper(s.text[s.begin:s.at]) }
