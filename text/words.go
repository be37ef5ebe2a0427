package text

import (
	"strconv"
	"strings"

	"wanderstaff/api"
)

// form is what a word of the language begins: a statement or an expression; the other one's kind is 0.
type form struct {
	stmt, expr int
	op         int // operation of two
	args       int // how many expressions it has
}

// forms has the words of the language; of every other one the form is zero, as a map answers it.
func forms() map[string]form {
	return map[string]form{
		"let":    {stmt: api.StLet, args: 1},
		"set":    {stmt: api.StSet, args: 1},
		"if":     {stmt: api.StIf, args: 1},
		"while":  {stmt: api.StWhile, args: 1},
		"say":    {stmt: api.StSay, args: 1},
		"return": {stmt: api.StReturn, args: 1},
		"putl":   {stmt: api.StLeft, args: 2},
		"putr":   {stmt: api.StRight, args: 2},
		"do":     {stmt: api.StDo, args: 1},
		"cell":   {expr: api.ExCell, args: 2},
		"left":   {expr: api.ExLeft, args: 1},
		"right":  {expr: api.ExRight, args: 1},
		"ask":    {expr: api.ExAsk, args: 1},
		"here":   {expr: api.ExHere, args: 0},
		"go":     {expr: api.ExGo, args: 1},
		"+":      {expr: api.ExTwo, op: api.TwoAdd, args: 2},
		"-":      {expr: api.ExTwo, op: api.TwoSub, args: 2},
		"*":      {expr: api.ExTwo, op: api.TwoMul, args: 2},
		"<":      {expr: api.ExTwo, op: api.TwoLess, args: 2},
		"=":      {expr: api.ExTwo, op: api.TwoSame, args: 2},
	}
}

// isName takes the forms from its caller, who may have many words to ask about.
func isName(s string, taken map[string]form) bool {
	if len(s) == 0 || len(s) > api.MaxName {
		return false
	}
	for i := range len(s) {
		if s[i] < 'a' || s[i] > 'z' {
			return false
		}
	}
	return taken[s] == form{}
}

// isNumber looks at how s is written alone: a number that is too large is one.
func isNumber(s string) bool {
	digits := strings.TrimPrefix(s, "-")
	if digits == "" || digits[0] == '0' && len(digits) > 1 {
		return false
	}
	for i := range len(digits) {
		if digits[i] < '0' || digits[i] > '9' {
			return false
		}
	}
	return true
}

// number is the number that s is, where isNumber holds.
func number(s string) (int, api.Errno) {
	n, err := strconv.Atoi(s)
	if err != nil || n < -api.MaxInt || n > api.MaxInt {
		return 0, api.ErrRange
	}
	return n, api.OK
}
