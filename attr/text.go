package attr

import (
	"slices"
	"strconv"
	"strings"

	"ironbark/api"
)

// written is the text of a right set.
func written(s api.Set) string {
	parts, before := slices.Clone(s.Words), lastNumeric(s)
	for at, word := range parts {
		switch {
		case s.HasP && word == before:
			parts[at] += precisionText(s)
		case s.HasN && (word == "CHARACTER" || word == "BIT"):
			parts[at] += "(" + strconv.Itoa(s.N) + ")"
		case word == "PICTURE":
			parts[at] += "'" + strings.ReplaceAll(s.Pic, "'", "''") + "'"
		}
	}
	if s.HasP && before == "" {
		parts = slices.Insert(parts, 0, precisionText(s))
	}
	return strings.Join(parts, " ")
}

// lastNumeric is a set's last arithmetic word, or nothing.
func lastNumeric(s api.Set) (last string) {
	known := words()
	for _, word := range s.Words {
		if known[word].of&numeric != 0 {
			last = word
		}
	}
	return last
}

func precisionText(s api.Set) string {
	if s.HasQ {
		return "(" + strconv.Itoa(s.P) + "," + strconv.Itoa(s.Q) + ")"
	}
	return "(" + strconv.Itoa(s.P) + ")"
}

// read is the set with a text. What is read need not be right, nor the text its own: both are asked at the end.
func read(text string) (s api.Set) {
	rest, shown := withoutPicture(text)
	s.Pic = strings.ReplaceAll(shown, "''", "'")
	for part := range strings.SplitSeq(rest, " ") {
		readPart(&s, part)
	}
	demand(isRight(s) && written(s) == text, api.ErrSyntax)
	return s
}

// withoutPicture is a text without what its first and its last quote enclose, and that.
func withoutPicture(text string) (rest, shown string) {
	from, to := strings.Index(text, "'"), strings.LastIndex(text, "'")
	if from == to {
		return text, ""
	}
	return text[:from] + text[to+1:], text[from+1 : to]
}

// readPart reads a word, and the numbers behind it.
func readPart(s *api.Set, part string) {
	word, numbers, is := strings.Cut(part, "(")
	if word != "" {
		s.Words = append(s.Words, word)
	}
	if !is {
		return
	}
	p, q, isScale := strings.Cut(strings.TrimSuffix(numbers, ")"), ",")
	if word == "CHARACTER" || word == "BIT" {
		s.HasN, s.N = true, number(p)
		return
	}
	s.HasP, s.P = true, number(p)
	if isScale {
		s.HasQ, s.Q = true, number(q)
	}
}

func number(digits string) int {
	n, err := strconv.Atoi(digits)
	demand(err == nil, api.ErrSyntax)
	return n
}
