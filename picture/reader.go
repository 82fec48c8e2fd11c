package picture

import (
	"iter"
	"strings"
)

// maxFactor is how often a factor may have a symbol repeated.
const maxFactor = 30

// reader goes over the text of a picture from byte to byte.
type reader struct {
	text string
	at   int // the next one
}

// readRow reads the symbols of a text; it refuses the first byte that is no part of one or of a factor.
func readRow(text string) row {
	var letters []byte
	r := reader{text: text}
	for letter := range r.letters() {
		letters = append(letters, letter)
	}
	return row(letters)
}

// letters are those of the symbols up to the text's end, each as often as the factor ahead of it says. A text has one at least.
func (r *reader) letters() iter.Seq[byte] {
	return func(yield func(byte) bool) {
		known := symbols()
		for more := true; more; more = r.at < len(r.text) {
			times := r.factor()
			letter := r.symbol(known)
			for range times {
				if !yield(letter) {
					return
				}
			}
		}
	}
}

// factor goes over a factor; where there is none it is 1.
func (r *reader) factor() int {
	if r.next() != '(' {
		return 1
	}
	r.at++
	n := r.grown(0)
	for r.next() != ')' {
		n = r.grown(n)
	}
	r.at++
	return n
}

// grown goes over one digit more of a factor, and is the factor up to it.
func (r *reader) grown(n int) int {
	figure := strings.IndexByte(figures, r.next())
	n = 10*n + figure
	if figure < 0 || n < 1 || n > maxFactor {
		r.stop()
	}
	r.at++
	return n
}

// symbol goes over a symbol, and is its letter.
func (r *reader) symbol(known map[byte]symbol) byte {
	letter := great(r.next())
	s, is := known[letter]
	if !is {
		r.stop()
	}
	for _, part := range []byte(s.name(letter)) {
		if great(r.next()) != part {
			r.stop()
		}
		r.at++
	}
	return letter
}

// next is the byte at which the reader stands; behind the text it is one that stands for nothing.
func (r *reader) next() byte {
	if r.at == len(r.text) {
		return 0
	}
	return r.text[r.at]
}

// stop leaves the text where the reader stands.
func (r *reader) stop() { refuseAt(r.at) }

// great is a letter as a great one, and any other byte as it is.
func great(b byte) byte {
	if 'a' <= b && b <= 'z' {
		return b - 'a' + 'A'
	}
	return b
}
