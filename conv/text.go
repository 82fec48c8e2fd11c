package conv

import (
	"strings"

	"ironbark/api"
)

func ofCharacters(text string) api.Value { return api.Value{Kind: api.TChar, S: text} }

func ofBits(text string) api.Value { return api.Value{Kind: api.TBit, S: text} }

// itsLength is the length of a string's type.
func itsLength(from api.Type) int { return from.N }

func bitsAsCharacters(v api.Value, _ way) taken { return taken{value: ofCharacters(v.S)} }

// readBits is the characters 0 and 1 as bits.
func readBits(v api.Value, w way) taken {
	if other := strings.TrimLeft(v.S, "01"); other != "" {
		return unconverted(v.S, len(v.S)-len(other), w)
	}
	return taken{value: ofBits(v.S)}
}

// readNumber is characters as the number of their constant.
func readNumber(v api.Value, w way) taken {
	c := constantOf(v.S)
	if c.at != nowhere {
		return unconverted(v.S, c.at, w)
	}
	return taken{value: c.value}
}

// binaryNumber is bits as a whole number, of the low ones if there are too many.
func binaryNumber(v api.Value, _ way) taken {
	text, cond := strings.TrimLeft(v.S, "0"), 0
	if more := len(text) - api.MaxBin; more > 0 {
		text, cond = text[more:], api.CSize
	}
	return taken{api.Value{Kind: api.TBin, N: natural(text, 2)}, api.Raise{Cond: cond}}
}

// natural is the number of some digits; of none 0.
func natural(text string, base int) int {
	n := 0
	for _, d := range text {
		n = base*n + int(d-'0')
	}
	return n
}
