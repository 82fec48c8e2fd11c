package arith

import (
	"ironbark/api"
	"ironbark/digit"
)

// operator is what an operator's sign stands for.
type operator struct {
	does func(o operation) fitted
}

// operands are two numbers.
type operands struct{ a, b api.Value }

// operation is two operands, and the type to which what comes of them is fitted.
type operation struct {
	operands
	to api.Type
}

// fitted is the value that is taken, and the condition.
type fitted struct {
	value api.Value
	cond  int
}

func (f fitted) told() (api.Value, int) { return f.value, f.cond }

// reckoning is how layer digit fits what comes of two numbers to a type.
type reckoning func(a, b api.Value, t api.Type) (v api.Value, cond int, e api.Errno)

func operators() map[string]operator {
	return map[string]operator{
		"+":  {reckonedBy(digit.Add)},
		"-":  {reckonedBy(digit.Subtract)},
		"*":  {reckonedBy(digit.Multiply)},
		"/":  {reckonedBy(digit.Divide)},
		"**": {operation.power},
	}
}

// comparisons tell by a sign whether it holds for an order: -1, 0, 1.
func comparisons() map[string]func(order int) bool {
	return map[string]func(order int) bool{
		"=":  func(order int) bool { return order == 0 },
		"^=": func(order int) bool { return order != 0 },
		"<":  func(order int) bool { return order < 0 },
		"<=": func(order int) bool { return order <= 0 },
		">":  func(order int) bool { return order > 0 },
		">=": func(order int) bool { return order >= 0 },
	}
}

// bySign is what a sign stands for; it refuses a sign that stands for nothing.
func bySign[T any](all map[string]T, sign string) T {
	found, is := all[sign]
	if !is {
		refuse(api.ErrName)
	}
	return found
}

// reckonedBy has an operation done by layer digit.
func reckonedBy(reckon reckoning) func(o operation) fitted {
	return func(o operation) fitted {
		v, cond, e := reckon(o.a, o.b, o.to)
		demandOK(e)
		return fitted{v, cond}
	}
}

func zeroOf(t api.Type) api.Value {
	zero, e := digit.Zero(t)
	demandOK(e)
	return zero
}
