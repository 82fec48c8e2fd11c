package token

import (
	"strings"

	"ironbark/api"
)

// written is a token as a source has it.
func written(t api.Token) string {
	switch t.Kind {
	case api.KChar:
		return "'" + strings.ReplaceAll(t.Text, "'", "''") + "'"
	case api.KBits:
		return "'" + t.Text + "'B"
	}
	return t.Text
}

// isRow reports whether tokens, wherever they stand, are just some others.
func isRow(l []api.Token, others ...api.Token) bool {
	if len(l) != len(others) {
		return false
	}
	for at, t := range l {
		if t.Kind != others[at].Kind || t.Text != others[at].Text {
			return false
		}
	}
	return true
}

// isApart reports whether a blank stands between two tokens: also where it need not look so, but without it they would be read otherwise.
func isApart(a, b api.Token) bool {
	if !isClose(a, b) {
		return true
	}
	l, _, e := scanned(written(a) + written(b))
	return e != api.OK || !isRow(l, a, b)
}

// isClose reports whether two tokens look better without a blank.
func isClose(a, b api.Token) bool {
	return isOperator(b, ",;):.") || isOperator(a, "(.") || a.Kind == api.KName && isOperator(b, "(")
}

// isOperator reports whether a token is one of some operators of one byte each.
func isOperator(t api.Token, some string) bool {
	return t.Kind == api.KPunct && strings.Contains(some, t.Text)
}
