package rule

import "ironbark/api"

// rule is the type of what two types of numbers give.
type rule func(a, b api.Type) api.Type

// precision is the precision and the scale of what two types of one fixed base give, whose greatest precision is most.
type precision func(a, b api.Type, most int) (p, q int)

// operator is an operator's sign, and its rule.
type operator struct {
	sign string
	rule rule
}

func operators() [5]operator {
	return [...]operator{
		{"+", based(precisionOfSum)},
		{"-", based(precisionOfSum)},
		{"*", based(precisionOfProduct)},
		{"/", based(precisionOfQuotient)},
		{"**", widerFloat},
	}
}

// operatorOf is the operator of a sign; it refuses what is none.
func operatorOf(sign string) operator {
	for _, o := range operators() {
		if o.sign == sign {
			return o
		}
	}
	refuse(api.ErrName)
	return operator{}
}

// based is a rule of types in their common base, where floats have a rule of their own.
func based(fixed precision) rule {
	return func(a, b api.Type) api.Type {
		a, b = alike(a, b)
		if a.Kind == api.TFloat {
			return widerFloat(a, b)
		}
		p, q := fixed(a, b, mostOf(a.Kind))
		return api.Type{Kind: a.Kind, P: p, Q: q}
	}
}

// widerFloat takes each type as float by itself: brought to a common base first, a decimal one beside a binary one would be another float.
func widerFloat(a, b api.Type) api.Type {
	return float(max(asFloat(a).P, asFloat(b).P))
}

// precisionOfSum has room for a carry ahead of the longer whole part.
func precisionOfSum(a, b api.Type, most int) (p, q int) {
	return precisionOfBoth(a, b, most, 1)
}

// precisionOfCommon has room for either number.
func precisionOfCommon(a, b api.Type, most int) (p, q int) {
	return precisionOfBoth(a, b, most, 0)
}

func precisionOfBoth(a, b api.Type, most, carry int) (p, q int) {
	q = max(a.Q, b.Q)
	whole := max(a.P-a.Q, b.P-b.Q)
	return min(most, max(1, whole+q+carry)), q
}

func precisionOfProduct(a, b api.Type, most int) (p, q int) {
	return min(most, a.P+b.P+1), min(api.MaxScale, a.Q+b.Q)
}

// precisionOfQuotient leaves to the fraction what the greatest whole part does not need.
func precisionOfQuotient(a, b api.Type, most int) (p, q int) {
	return most, max(0, min(api.MaxScale, most-a.P+a.Q-b.Q))
}

// folded puts the items of a list together, one after the other, onto the first one.
func folded[T any](first T, rest []T, together func(a, b T) T) T {
	for _, next := range rest {
		first = together(first, next)
	}
	return first
}
