package token

import (
	"strings"

	"ironbark/api"
)

const (
	operators   = "*|^<>=-+&(),;:%" // how operators begin that begin nothing else
	hexadecimal = "0123456789ABCDEF"
	bits        = "01"
)

func isBlank(c byte) bool { return c == ' ' || c == '\t' || c == '\n' }

func isPrinted(c byte) bool { return 32 <= c && c <= 126 }

func isDigit(c byte) bool { return '0' <= c && c <= '9' }

// isOfName reports whether a byte goes on a name, and so may not stand directly behind a number.
func isOfName(c byte) bool {
	return 'A' <= c && c <= 'Z' || 'a' <= c && c <= 'z' || isDigit(c) || c == '_' || c == '$' || c == '#' || c == '@'
}

func (s *scanner) blank() { s.at++ }

func (s *scanner) name() {
	s.demand(len(s.all(isOfName)) <= api.MaxName)
	s.tell(api.KName, s.raw())
}

// number goes over digits with a point, and what may stand behind them.
func (s *scanner) number() {
	s.all(isDigit)
	if s.skip(".") {
		s.all(isDigit)
	}
	digits := s.raw()
	switch {
	case s.skip("Ee"):
		s.exponent()
	case s.skip("Bb"):
		s.demand(strings.Trim(digits, bits+".") == "")
	}
	s.finish()
	s.tell(api.KNum, s.raw())
}

func (s *scanner) exponent() {
	s.skip("+-")
	digits := s.all(isDigit)
	s.demand(digits != "" && len(digits) <= 2)
}

// finish refuses what may not stand directly behind a number or bits.
func (s *scanner) finish() { s.demand(!isOfName(s.next())) }

// point goes over a number or an operator.
func (s *scanner) point() {
	if isDigit(s.behind(1)) {
		s.number()
	} else {
		s.operator()
	}
}

// slash goes over a comment or an operator.
func (s *scanner) slash() {
	if s.behind(1) == '*' {
		s.comment()
	} else {
		s.operator()
	}
}

func (s *scanner) comment() {
	s.at += len("/*")
	for s.inside() != '*' || s.behind(1) != '/' {
		s.at++
	}
	s.at += len("*/")
}

// operator goes over the longest one that fits.
func (s *scanner) operator() {
	s.at++
	if isPair(s.text[s.begin:min(s.at+1, len(s.text))]) {
		s.at++
	}
	s.tell(api.KPunct, s.raw())
}

func isPair(text string) bool {
	switch text {
	case "**", "||", "^=", "^<", "^>", "<=", ">=", "->":
		return true
	}
	return false
}

// quoted goes over characters, or over bits with the B behind them.
func (s *scanner) quoted() {
	text := s.unquoted()
	if !s.skip("Bb") {
		s.tell(api.KChar, text)
		return
	}
	if s.skip("4") {
		text = s.unfolded(text)
	}
	s.demand(strings.Trim(text, bits) == "" && len(text) <= api.MaxLen)
	s.finish()
	s.tell(api.KBits, text)
}

// unquoted goes over quotes and what is between them, and returns what that stands for.
func (s *scanner) unquoted() string {
	var b strings.Builder
	s.at++
	for {
		c := s.inside()
		s.at++
		if c == '\'' && !s.skip("'") {
			return b.String()
		}
		s.demand(isPrinted(c) && b.Len() < api.MaxLen)
		b.WriteByte(c)
	}
}

// unfolded is four bits for each hexadecimal digit.
func (s *scanner) unfolded(digits string) string {
	var b strings.Builder
	for _, digit := range []byte(strings.ToUpper(digits)) {
		n := strings.IndexByte(hexadecimal, digit)
		s.demand(n >= 0)
		for bit := range 4 {
			b.WriteByte(bits[n>>(3-bit)&1])
		}
	}
	return b.String()
}
