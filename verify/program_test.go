package verify

import (
	"math"
	"slices"
	"strings"
	"testing"

	"wanderstaff/api"
)

// coded is a code of so many parameters, and variables.
func coded(params, vars int, s string) api.Code {
	return api.Code{Params: params, Vars: vars, Instrs: instrs(s)}
}

func programIs(t *testing.T, what string, p api.Program, want api.Errno) {
	t.Helper()
	if got := Program(p); got != want {
		t.Errorf("%s: %d comes, not %d", what, got, want)
	}
}

const last = "int 0, return"

func TestF2Made(t *testing.T) {
	for _, s := range []string{
		"(main ())", "(main () (say (+ 1 2)))", "(main () (while 1 (say 'a')))", "(main () (return 1) (say 2))",
		"(main () (let x (f 1 2)) (say x))(f (a b) (if a ((return (go b))) ((putl a b))) (return (cell a b)))",
		"(main () (do (f 1 2 3 4)))(f (a b c d) (let e 1) (let f 2) (let g 3) (let h 4))",
	} {
		programIs(t, s, made(t, s), api.OK)
	}
}

func TestF2Counts(t *testing.T) {
	good := coded(0, 0, last)
	long := times(99, "here, pop", last)
	word := strings.Repeat("w", 12)
	words := func(n int, s string) api.Program {
		return api.Program{Codes: []api.Code{good}, Words: slices.Repeat([]string{s}, n)}
	}
	codes := func(l ...api.Code) api.Program { return api.Program{Codes: l} }
	many := func(n int) api.Program { return api.Program{Codes: slices.Repeat([]api.Code{good}, n)} }
	for _, r := range []struct {
		what string
		p    api.Program
		want api.Errno
	}{
		{"no code", many(0), api.ErrMany}, {"one", many(1), api.OK}, {"five", many(5), api.OK}, {"six", many(6), api.ErrMany},
		{"no word", words(0, ""), api.OK}, {"16 words, all the same", words(16, "a b"), api.OK}, {"17 words", words(17, "a b"), api.ErrMuch},
		{"12 bytes", words(1, word), api.OK}, {"13 bytes", words(1, word+"w"), api.ErrName}, {"none", words(3, ""), api.OK},
		{"a quote", words(1, "it's"), api.ErrName}, {"a line feed", words(2, "\n"), api.ErrName}, {"beyond ~", words(1, "\x7f"), api.ErrName},
		{"the first one has Params", codes(coded(1, 1, last)), api.ErrFit}, {"below 0", codes(coded(-1, 1, last)), api.ErrFit},
		{"the second one has Params", codes(good, coded(4, 4, last)), api.OK}, {"five Params", codes(good, coded(5, 5, last)), api.ErrRange},
		{"Params below 0", codes(good, coded(-1, 1, last)), api.ErrRange}, {"Vars below 0", codes(coded(0, -1, last)), api.ErrRange},
		{"fewer Vars than Params", codes(good, coded(2, 1, last)), api.ErrRange}, {"as many", codes(good, coded(2, 2, last)), api.OK},
		{"eight Vars", codes(coded(0, 8, last)), api.OK}, {"nine Vars", codes(coded(0, 9, last)), api.ErrRange}, {"eight, with Params", codes(good, coded(4, 8, last)), api.OK},
		{"no instruction", codes(coded(0, 0, "")), api.ErrRange}, {"one instruction", codes(coded(0, 0, "jump 0")), api.OK},
		{"200", codes(coded(0, 0, long)), api.OK}, {"201", codes(coded(0, 0, "jump 1, "+long)), api.ErrRange},
		{"the last one of them", codes(good, good, good, good, coded(0, 0, "")), api.ErrRange},
		{"huge", codes(good, coded(math.MinInt, math.MaxInt, last)), api.ErrRange},
	} {
		programIs(t, r.what, r.p, r.want)
	}
}

func TestF2Numbers(t *testing.T) {
	rows := []struct {
		want api.Errno
		l    []string
	}{
		{api.ErrKind, []string{"none", "none 1 1"}},
		{api.OK, []string{"int 1073741824", "int -1073741824", "int 0", "text 0", "text 2", "load 0", "load 3", "store 0", "store 3", "two 1", "two 5", "jump 0", "jump 2", "else 0", "else 2"}},
		{api.ErrRange, []string{"int 1073741825", "int -1073741825", "text -1", "text 3", "load -1", "load 4", "store -1", "store 4", "two 0", "two 6", "jump -1", "jump 3", "else -1", "else 3"}},
		// the code's Params are B
		{api.OK, []string{"call 0 0", "call 1 2", "call 2 4"}},
		{api.ErrRange, []string{"call 3 0", "call -1 0", "call 0 1", "call 0 -1", "call 1 0", "call 1 1", "call 1 3", "call 2 2", "call 9223372036854775807", "call -9223372036854775808"}},
		// of others 0
		{api.OK, []string{"cell", "left", "right", "putl", "putr", "ask", "here", "go", "say", "return", "pop"}},
		{api.ErrRange, []string{"cell 1", "left 1", "right 1", "putl 1", "putr 1", "ask 1", "here 1", "go 1", "say 1", "return 1", "pop 1", "cell -1", "pop -1"}},
		// B is 0 but of call
		{api.ErrRange, []string{"int 1 1", "text 1 1", "load 1 1", "store 1 1", "two 1 1", "cell 0 1", "left 0 1", "right 0 1", "putl 0 1", "putr 0 1", "ask 0 1", "here 0 1", "go 0 1", "say 0 1", "jump 1 1", "else 1 1", "return 0 1", "pop 0 1", "pop 0 -1", "int 1 -1"}},
	}
	for _, r := range rows {
		for _, s := range r.l {
			// nothing leads there, so that numbers alone count
			c := coded(0, 4, last+", "+s)
			p := api.Program{Codes: []api.Code{c, coded(2, 2, last), coded(4, 4, last)}, Words: []string{"a", "", "b"}}
			programIs(t, s, p, r.want)
			p.Codes = []api.Code{coded(0, 0, last), coded(2, 4, last+", "+s), coded(4, 4, last)}
			programIs(t, "in the second one: "+s, p, r.want)
		}
	}
	for _, op := range []int{-1, 0, 20, math.MinInt, math.MaxInt} {
		programIs(t, "an op that is none", api.Program{Codes: []api.Code{{Instrs: []api.Instr{{Op: op, A: 7, B: 7}}}}}, api.ErrKind)
	}
}

func TestF2Heights(t *testing.T) {
	for _, r := range []struct {
		s    string
		want api.Errno
	}{
		{"int 0", api.ErrEnd}, {"return", api.ErrFit}, {times(17, "here", last), api.ErrMuch}, {"int 0, int 1, return", api.ErrFit},
		{"call 0", api.ErrEnd}, {"call 0, return", api.OK},
	} {
		programIs(t, r.s, api.Program{Codes: []api.Code{coded(0, 0, r.s)}}, r.want)
		programIs(t, "in the second one: "+r.s, api.Program{Codes: []api.Code{coded(0, 0, last), coded(0, 0, r.s)}}, r.want)
	}
}

// Of several errors the first one is told: each program has one error less than the one above it.
func TestF2Turn(t *testing.T) {
	good, bad := coded(0, 0, last), coded(9, 9, "none 1, return")
	p := api.Program{Codes: []api.Code{bad, bad, bad, good, good, good}, Words: append(make([]string, 16), "'")}
	next := func(what string, want api.Errno) {
		t.Helper()
		programIs(t, what, p, want)
	}
	next("codes", api.ErrMany)
	p.Codes = p.Codes[:5]
	next("words", api.ErrMuch)
	p.Words[0], p.Words = "'", p.Words[:16]
	next("a word", api.ErrName)
	p.Words[0] = "a"
	next("the first code's Params", api.ErrFit)
	p.Codes[0] = coded(0, 1, "int 1 1, none, return")
	// all codes' counts are ahead of the first one's instructions
	next("counts", api.ErrRange)
	p.Codes[1].Params, p.Codes[2].Params = 1, 1
	p.Codes[1].Vars = 1
	next("the third one's counts", api.ErrRange)
	p.Codes[2].Vars = 1
	next("numbers, in turn", api.ErrRange)
	p.Codes[0].Instrs = instrs("return, none 3 3, int 1 1")
	next("an op, ahead of its A, and of heights", api.ErrKind)
	p.Codes[0].Instrs = instrs("return, jump 0, int 1 1")
	next("A number behind", api.ErrRange)
	// the first code's heights are ahead of the second one's instructions
	p.Codes[0].Instrs = instrs("here, pop")
	next("heights", api.ErrEnd)
	p.Codes[0].Instrs = instrs(last)
	next("the second one", api.ErrKind)
	p.Codes[1].Instrs = instrs("return")
	next("its heights", api.ErrFit)
	p.Codes[1].Instrs = instrs(last)
	next("the third one", api.ErrKind)
	p.Codes[2].Instrs = instrs(last)
	next("nothing", api.OK)
}
