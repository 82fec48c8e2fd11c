package picture

import "strings"

// isOfCharacters reports whether symbols are a picture of characters.
func (r row) isOfCharacters() bool {
	return strings.ContainsAny(string(r), characters) && strings.Trim(string(r), characters+"9") == ""
}

// fitted is a text as long as a picture of characters.
func (r row) fitted(text string) string {
	lack := max(0, len(r)-len(text))
	return (text + strings.Repeat(blank, lack))[:len(r)]
}

// refused is the first place of a text, as long as the picture, whose character its symbol does not stand for.
func (r row) refused(text string) int {
	for at := range len(r) {
		if !standsFor(r[at], text[at]) {
			return at + 1
		}
	}
	return nowhere
}

// checked is the place at which a text of any length is wrong; its length is asked first.
func (r row) checked(text string) int {
	if len(text) != len(r) {
		return uneven(text, len(r))
	}
	return r.refused(text)
}

// uneven is the place of the first byte that lacks, or is too much, in a text that is not of a length.
func uneven(text string, length int) int { return min(len(text), length) + 1 }

// standsFor reports whether a symbol of a picture of characters stands for a byte.
func standsFor(letter, b byte) bool {
	switch letter {
	case 'A':
		return b == ' ' || great(b) >= 'A' && great(b) <= 'Z'
	case '9':
		return b == ' ' || isFigure(b)
	}
	return b >= ' ' && b <= '~'
}

func isFigure(b byte) bool { return strings.IndexByte(figures, b) >= 0 }
