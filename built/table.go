package built

import (
	"ironbark/api"
	"ironbark/digit"
	"ironbark/rule"
)

// row is a built-in function: how many arguments it takes and as what, the type of its result, and its value.
type row struct {
	name        string
	least, most int
	takes       []role // those behind the last one are as it is
	result      func(s signature) api.Type
	value       func(w work) api.Value
}

// table is all functions, in the order of the chapter.
func table() [31]row {
	number, text, whole, alike := signature.number, signature.text, signature.whole, signature.alike
	characters, digits, result := signature.characters, signature.digits, signature.result
	return [...]row{
		{"ABS", 1, 1, []role{number}, itsNumber, magnitude},
		{"SIGN", 1, 1, []role{number}, aCount, sign},
		{"FLOOR", 1, 1, []role{number}, itsWhole, wholePart(-1)},
		{"CEIL", 1, 1, []role{number}, itsWhole, wholePart(+1)},
		{"TRUNC", 1, 1, []role{number}, itsWhole, wholePart(0)},
		{"ROUND", 2, 2, []role{number, whole}, rounded, nearest},
		{"MOD", 2, 2, []role{number}, common, reckonedBy(digit.Modulo)},
		{"MAX", 1, 20, []role{number}, common, extreme(">")},
		{"MIN", 1, 20, []role{number}, common, extreme("<")},
		{"ADD", 3, 4, []role{number, number, whole}, reckoned, reckonedBy(digit.Add)},
		{"SUBTRACT", 3, 4, []role{number, number, whole}, reckoned, reckonedBy(digit.Subtract)},
		{"MULTIPLY", 3, 4, []role{number, number, whole}, reckoned, reckonedBy(digit.Multiply)},
		{"DIVIDE", 3, 4, []role{number, number, whole}, reckoned, reckonedBy(digit.Divide)},
		{"FIXED", 1, 3, []role{number, whole}, turned(rule.Negated), first},
		{"BINARY", 1, 3, []role{number, whole}, turned(rule.Binary), first},
		{"DECIMAL", 1, 3, []role{number, whole}, turned(rule.Decimal), first},
		{"FLOAT", 1, 2, []role{number, whole}, turned(rule.Float), first},
		{"LENGTH", 1, 1, []role{text}, aCount, length},
		{"SUBSTR", 2, 3, []role{text, whole}, varying, part},
		{"INDEX", 2, 2, []role{alike}, aCount, index},
		{"VERIFY", 2, 2, []role{alike}, aCount, verify},
		{"TRANSLATE", 3, 3, []role{characters}, itsCharacters, translated},
		{"REPEAT", 2, 2, []role{text, whole}, longest, repeated},
		{"COPY", 2, 2, []role{text, whole}, longest, copied},
		{"REVERSE", 1, 1, []role{text}, itsText, reversed},
		{"BOOL", 3, 3, []role{digits, digits, signature.operation}, longerDigits, combined},
		{"CHAR", 1, 2, []role{result, whole}, asLong(api.TChar), first},
		{"BIT", 1, 2, []role{result, whole}, asLong(api.TBit), first},
		{"HIGH", 1, 1, []role{whole}, counted, all("~")},
		{"LOW", 1, 1, []role{whole}, counted, all(" ")},
		{"STRING", 1, 1, []role{text}, itsText, first},
	}
}

// rowOf is the function of a name; it refuses a name of none.
func rowOf(name string) row {
	for _, f := range table() {
		if f.name == name {
			return f
		}
	}
	refuse(api.ErrName)
	return row{}
}

func (f row) takesSoMany(n int) bool { return f.least <= n && n <= f.most }

// role is what an argument is taken as.
func (f row) role(at int) role { return f.takes[min(at, len(f.takes)-1)] }

// kind is the kind of the results for arguments of some types, whatever their values are; it is none if no values make a valid type.
func (f row) kind(types []api.Type) (kind int, is bool) {
	t := f.result(signature{types: types, count: likeliest(types)})
	return t.Kind, digit.Valid(t)
}
