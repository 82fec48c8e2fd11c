package rule

import (
	"strconv"
	"strings"

	"ironbark/api"
	"ironbark/digit"
)

const (
	mark = "'"    // what stands around a picture
	vary = " VAR" // what stands behind a length
)

// spelling is how the types of a kind are written: a word, and what stands behind it. What read returns has no kind yet, and may be of another text.
type spelling struct {
	word  string
	write func(t api.Type) string
	read  func(text string) api.Type
}

// spellings are in an array by kind. No word is the beginning of another one.
func spellings() [api.TEntry + 1]spelling {
	return [...]spelling{
		api.TBin:   {"FIXED BIN", writeFixed, readFixed},
		api.TDec:   {"FIXED DEC", writeFixed, readFixed},
		api.TFloat: {"FLOAT DEC", writeFloat, readFloat},
		api.TChar:  {"CHAR", writeLength, readLength},
		api.TBit:   {"BIT", writeLength, readLength},
		api.TPic:   {"PIC", writePicture, readPicture},
		api.TPtr:   {"PTR", writeNothing, readNothing},
		api.TLabel: {"LABEL", writeNothing, readNothing},
		api.TEntry: {"ENTRY", writeNothing, readNothing},
	}
}

// textOf writes a valid type.
func textOf(t api.Type) string {
	s := spellings()[t.Kind]
	return s.word + s.write(t)
}

// readType reads a type; it refuses what is none. To write it again is what finds all that is not as it should be: zeros ahead of numbers, blanks, what stands behind the end.
func readType(text string) api.Type {
	t := likely(text)
	if !digit.Valid(t) || textOf(t) != text {
		refuse(api.ErrSyntax)
	}
	return t
}

// likely is the type of a text, if there is one; otherwise any.
func likely(text string) api.Type {
	for kind, s := range spellings() {
		rest, found := strings.CutPrefix(text, s.word)
		if !found || s.read == nil {
			continue
		}
		t := s.read(rest)
		t.Kind = kind
		return t
	}
	return api.Type{}
}

func writeFixed(t api.Type) string {
	return inParentheses(strconv.Itoa(t.P) + "," + strconv.Itoa(t.Q))
}

func readFixed(text string) api.Type {
	p, q, _ := strings.Cut(inside(text), ",")
	return api.Type{P: number(p), Q: number(q)}
}

func writeFloat(t api.Type) string { return inParentheses(strconv.Itoa(t.P)) }

func readFloat(text string) api.Type { return api.Type{P: number(inside(text))} }

func writeLength(t api.Type) string {
	text := inParentheses(strconv.Itoa(t.N))
	if t.Vary {
		return text + vary
	}
	return text
}

func readLength(text string) api.Type {
	text, varies := strings.CutSuffix(text, vary)
	return api.Type{N: number(inside(text)), Vary: varies}
}

func writePicture(t api.Type) string {
	return mark + strings.ReplaceAll(t.Pic, mark, mark+mark) + mark
}

func readPicture(text string) api.Type {
	text = strings.TrimSuffix(strings.TrimPrefix(text, mark), mark)
	return api.Type{Pic: strings.ReplaceAll(text, mark+mark, mark)}
}

func writeNothing(api.Type) string { return "" }

func readNothing(string) api.Type { return api.Type{} }

func inParentheses(text string) string { return "(" + text + ")" }

func inside(text string) string {
	return strings.TrimSuffix(strings.TrimPrefix(text, "("), ")")
}

// number is a number of a type; what is none is 0, which is written otherwise.
func number(text string) int {
	n, err := strconv.Atoi(text)
	if err != nil {
		return 0
	}
	return n
}
