package attr

import (
	"strings"

	"ironbark/api"
)

// groups is a set of groups of attributes, a bit for each.
type groups uint

const (
	scaling groups = 1 << iota // FIXED and FLOAT
	base
	letters // CHARACTER and BIT
	varying
	picture
	pointer
	label
	entry
	file
	builtin
	condition
	storage
	based
	initial
	precision
	scale // that of a precision

	numeric = scaling | base
	textual = letters | varying
	data    = numeric | textual | picture | pointer | label | entry | file | builtin | condition
)

// trait is the groups that an attribute is of, those that do not go together with it, and one that must be there for it.
type trait struct{ of, bars, needs groups }

// words is the words' traits. Of two that do not go together it is enough if one bars the other.
func words() map[string]trait {
	return map[string]trait{
		"FIXED":      {of: scaling, bars: data &^ base},
		"FLOAT":      {of: scaling, bars: data&^base | scale},
		"BINARY":     {of: base, bars: data &^ scaling},
		"DECIMAL":    {of: base, bars: data &^ scaling},
		"CHARACTER":  {of: letters, bars: data&^varying | precision},
		"BIT":        {of: letters, bars: data&^varying | precision},
		"VARYING":    {of: varying, bars: data&^letters | precision, needs: letters},
		"PICTURE":    {of: picture, bars: data | precision},
		"POINTER":    {of: pointer, bars: data | precision},
		"LABEL":      {of: label, bars: data | precision},
		"ENTRY":      {of: entry, bars: data | precision | storage | initial},
		"FILE":       {of: file, bars: data | precision | storage | initial},
		"BUILTIN":    {of: builtin, bars: data | precision | storage | initial},
		"CONDITION":  {of: condition, bars: data | precision | storage | initial},
		"AUTOMATIC":  {of: storage, bars: storage},
		"STATIC":     {of: storage, bars: storage},
		"CONTROLLED": {of: storage, bars: storage},
		"BASED":      {of: storage | based, bars: storage},
		"INITIAL":    {of: initial, bars: initial | based},
	}
}

// goesWith reports whether nothing of two traits is barred by the other one.
func (t trait) goesWith(other trait) bool { return t.of&other.bars == 0 && other.of&t.bars == 0 }

// and is two traits as one.
func (t trait) and(other trait) trait {
	return trait{of: t.of | other.of, bars: t.bars | other.bars}
}

// canonical is a word's canonical form.
func canonical(word string) string {
	full := longer(word)
	_, is := words()[full]
	demand(is, api.ErrName)
	return full
}

// longer is the word that is written shorter, or the same word.
func longer(word string) string {
	switch word {
	case "BIN":
		return "BINARY"
	case "DEC":
		return "DECIMAL"
	case "CHAR":
		return "CHARACTER"
	case "VAR":
		return "VARYING"
	case "PIC":
		return "PICTURE"
	case "PTR":
		return "POINTER"
	case "AUTO":
		return "AUTOMATIC"
	case "CTL":
		return "CONTROLLED"
	case "INIT":
		return "INITIAL"
	case "COND":
		return "CONDITION"
	}
	return word
}

// isName reports whether a text may be a variable's name.
func isName(text string) bool {
	return text != "" && len(text) <= api.MaxName && isFirst(text[0]) && strings.Trim(text, nameBytes) == ""
}

const (
	firstBytes = "ABCDEFGHIJKLMNOPQRSTUVWXYZ$#@"
	nameBytes  = firstBytes + "0123456789_"
)

func isFirst(c byte) bool { return strings.IndexByte(firstBytes, c) >= 0 }
