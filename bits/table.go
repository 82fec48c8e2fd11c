package bits

import "ironbark/api"

// The operations by tables that have names, by their places among operations.
const (
	and = iota
	or
	xor
)

// operation makes one bit of two.
type operation func(x, y byte) byte

// operations is what And, Or and Xor do.
func operations() [3]operation {
	return [...]operation{and: byTable("0001"), or: byTable("0111"), xor: byTable("0110")}
}

// byTable does what a table says, which is valid.
func byTable(table string) operation {
	return func(x, y byte) byte { return table[2*(x-'0')+(y-'0')] }
}

// demandTable refuses a text that is no table.
func demandTable(table string) {
	items, _ := spanOf(digits{})
	if len(table) != 4 || !items.hasAll(table) {
		refuse(api.ErrRange)
	}
}

// combined does an operation bit by bit.
func combined(a, b api.Value, does operation) api.Value {
	x, y := filled(a), filled(b)
	return like(a, max(len(a.S), len(b.S)), func(at int) byte { return does(x(at), y(at)) })
}

// named does an operation that has a name.
func named(which int, a, b api.Value) (api.Value, api.Errno) {
	return answered(func() api.Value {
		demandKind(digits{}, a, b)
		return combined(a, b, operations()[which])
	})
}

// turned tells the other bit at each place.
func turned(a api.Value) teller {
	return func(at int) byte {
		if a.S[at] == '0' {
			return '1'
		}
		return '0'
	}
}
