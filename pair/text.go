package pair

import (
	"strings"

	"ironbark/api"
	"ironbark/digit"
)

const (
	maxRead = 80  // how long a text may be that Read takes
	unit    = "I" // what stands behind Im
)

// textOf writes a valid pair; it refuses one that could not be read back.
func textOf(x api.Pair) string {
	demandAlike(x)
	re, im := eachPart(x, textOfPart)
	if !strings.HasPrefix(im, "-") {
		im = "+" + im
	}
	return re + im + unit
}

func textOfPart(part api.Value) string {
	text, e := digit.Text(part)
	demandOK(e)
	return text
}

// demandAlike refuses parts that do not go together in a text. Parts of one kind of no numbers are left to layer digit, which has another error for them.
func demandAlike(x api.Pair) {
	alike := x.Re.Kind == x.Im.Kind
	switch x.Re.Kind {
	case api.TBin:
		alike = false
	case api.TDec:
		alike = alike && x.Re.Q == x.Im.Q
	}
	if !alike {
		refuse(api.ErrType)
	}
}

// readPair reads a pair; it refuses what Text does not write.
func readPair(text string) api.Pair {
	if len(text) > maxRead {
		refuse(api.ErrLong)
	}
	parts, isPair := strings.CutSuffix(text, unit)
	between := signBetween(parts)
	if !isPair || between == 0 {
		refuse(api.ErrSyntax)
	}
	x := api.Pair{Re: readPart(parts[:between]), Im: readPart(parts[between:])}
	if textOf(x) != text {
		refuse(api.ErrSyntax)
	}
	return x
}

func readPart(text string) api.Value {
	v, e := digit.Read(text)
	demandOK(e)
	return v
}

// signBetween is where the sign between two parts stands; 0 if there is none.
func signBetween(text string) int {
	for at := len(text) - 1; at > 0; at-- {
		if (text[at] == '+' || text[at] == '-') && text[at-1] != 'E' {
			return at
		}
	}
	return 0
}
