package bits

import "ironbark/api"

// kind is one of the two kinds of strings.
type kind interface{ number() int }

type characters struct{}

type digits struct{}

func (characters) number() int { return api.TChar }

func (digits) number() int { return api.TBit }

// kindOf is the kind of strings with a number of api's; nil if that is none of strings.
func kindOf(number int) kind {
	for _, k := range [...]kind{characters{}, digits{}} {
		if k.number() == number {
			return k
		}
	}
	return nil
}

// span is the items of a kind: from the least one on, which is also the filler, to the greatest one.
type span struct{ filler, greatest byte }

// spanOf is the items of a kind; false if it is none.
func spanOf(k kind) (span, bool) {
	switch k.(type) {
	case characters:
		return span{' ', '~'}, true
	case digits:
		return span{'0', '1'}, true
	}
	return span{}, false
}

func (within span) has(item byte) bool { return within.filler <= item && item <= within.greatest }

// hasAll reports whether a text has no other items.
func (within span) hasAll(text string) bool {
	for at := range len(text) {
		if !within.has(text[at]) {
			return false
		}
	}
	return true
}
