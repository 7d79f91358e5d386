package expr

import (
	"slices"
	"strconv"
	"strings"

	"skein/api"
	"skein/field"
)

// Print is an expression as a text.
func Print(e api.Expr) string {
	if Check(e) != api.OK {
		return ""
	}
	return textOf(e)
}

func textOf(e api.Expr) string {
	switch e.Kind {
	case api.ExprTrue:
		return allText
	case api.ExprFalse:
		return nothingText
	case api.ExprIs:
		return comparisonText(e)
	case api.ExprNot:
		return "!" + enclosed(e.Parts[0], api.ExprIs, api.ExprAnd, api.ExprOr)
	}
	var parts []string
	for _, p := range e.Parts {
		parts = append(parts, enclosed(p, api.ExprAnd, api.ExprOr))
	}
	if e.Kind == api.ExprAnd {
		return strings.Join(parts, " && ")
	}
	return strings.Join(parts, " || ")
}

// enclosed is the text of a part, in parentheses if it is of one of those kinds.
func enclosed(e api.Expr, kinds ...int) string {
	if slices.Contains(kinds, e.Kind) {
		return "(" + textOf(e) + ")"
	}
	return textOf(e)
}

func comparisonText(e api.Expr) string {
	words := []string{field.Name(e.Field), operatorText(e.Op), hexadecimal(e.Value)}
	if e.Mask != allBits(e.Field) {
		words = append(words, "/", hexadecimal(e.Mask))
	}
	return strings.Join(words, " ")
}

func hexadecimal(v uint64) string {
	return "0x" + strconv.FormatUint(v, 16)
}

// The parts that say all, and nothing.
const (
	allText     = "1"
	nothingText = "0"
)

// operators is the texts of the operators, from OpEq on.
var operators = [...]string{"==", "!=", "<", "<=", ">", ">="}

func operatorText(op int) string {
	return operators[op-api.OpEq]
}

// operatorOf is the operator that a token is, or 0.
func operatorOf(t api.Token) int {
	for i, text := range operators {
		if t.Kind == api.TokOp && t.Text == text {
			return api.OpEq + i
		}
	}
	return 0
}
