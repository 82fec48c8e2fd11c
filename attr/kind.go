package attr

import (
	"ironbark/api"
	"ironbark/digit"
)

// typeOf is the type of a filled set.
func typeOf(s api.Set) api.Type {
	t := api.Type{Kind: kindOf(s)}
	demand(t.Kind != 0, api.ErrKind)
	switch t.Kind {
	case api.TBin, api.TDec:
		t.P, t.Q = s.P, s.Q
	case api.TFloat:
		t.P = digitsOf(s)
	case api.TChar, api.TBit:
		t.N, t.Vary = s.N, has(s, "VARYING")
	case api.TPic:
		t.Pic = s.Pic
	}
	demand(digit.Valid(t), api.ErrRange)
	return t
}

// kindOf is the kind of a filled set's type, or 0.
func kindOf(s api.Set) int {
	switch {
	case has(s, "FLOAT"):
		return api.TFloat
	case has(s, "BINARY"):
		return api.TBin
	case has(s, "DECIMAL"):
		return api.TDec
	case has(s, "CHARACTER"):
		return api.TChar
	case has(s, "BIT"):
		return api.TBit
	case has(s, "PICTURE"):
		return api.TPic
	case has(s, "POINTER"):
		return api.TPtr
	case has(s, "LABEL"):
		return api.TLabel
	case has(s, "ENTRY"):
		return api.TEntry
	}
	return 0
}

// digitsOf is how many decimal digits a float has. 0 bits would make none: (3 * 0 + 9) / 10 is 0.
func digitsOf(s api.Set) int {
	if has(s, "BINARY") {
		return min(api.MaxDec, (3*s.P+9)/10)
	}
	return s.P
}

// setOf is the filled set of a type.
func setOf(t api.Type) api.Set {
	demand(digit.Valid(t), api.ErrKind)
	s := api.Set{Words: wordsOf(t)}
	switch t.Kind {
	case api.TBin, api.TDec:
		s.HasP, s.P, s.HasQ, s.Q = true, t.P, true, t.Q
	case api.TFloat:
		s.HasP, s.P = true, t.P
	case api.TChar, api.TBit:
		s.HasN, s.N = true, t.N
	case api.TPic:
		s.Pic = t.Pic
	}
	return filled(s, "X", nil) // nothing but storage is wanting
}

// wordsOf is the data words of a valid type.
func wordsOf(t api.Type) []string {
	switch t.Kind {
	case api.TBin:
		return []string{"BINARY", "FIXED"}
	case api.TDec:
		return []string{"DECIMAL", "FIXED"}
	case api.TFloat:
		return []string{"DECIMAL", "FLOAT"}
	case api.TChar:
		return varyingOr(t, "CHARACTER")
	case api.TBit:
		return varyingOr(t, "BIT")
	case api.TPic:
		return []string{"PICTURE"}
	case api.TPtr:
		return []string{"POINTER"}
	case api.TLabel:
		return []string{"LABEL"}
	}
	return []string{"ENTRY"}
}

// varyingOr is a word of strings, with VARYING where the type varies.
func varyingOr(t api.Type, word string) []string {
	if t.Vary {
		return []string{word, "VARYING"}
	}
	return []string{word}
}
