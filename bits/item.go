package bits

import "ironbark/api"

// teller tells which item stands at a place, counted from 0 on.
type teller func(at int) byte

// like is a string of the kind of s, so long, of the items that are told.
func like(s api.Value, length int, told teller) api.Value {
	text := make([]byte, length)
	for at := range length {
		text[at] = told(at)
	}
	return api.Value{Kind: s.Kind, S: string(text)}
}

// filled tells the items of a string, and fillers behind them without end.
func filled(s api.Value) teller {
	items, _ := spanOf(kindOf(s.Kind))
	return func(at int) byte {
		if at < len(s.S) {
			return s.S[at]
		}
		return items.filler
	}
}

// again tells the items of a string over and over.
func again(s api.Value) teller {
	return func(at int) byte { return s.S[at%len(s.S)] }
}

func backwards(s api.Value) teller {
	return func(at int) byte { return s.S[len(s.S)-1-at] }
}

// behind tells the items of a, then those of b.
func behind(a, b api.Value) teller {
	return func(at int) byte {
		if at < len(a.S) {
			return a.S[at]
		}
		return b.S[at-len(a.S)]
	}
}

// always tells the same item.
func always(same byte) teller {
	return func(int) byte { return same }
}
