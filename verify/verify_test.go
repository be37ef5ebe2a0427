package verify

import (
	"encoding/json"
	"slices"
	"strconv"
	"strings"
	"testing"

	"wanderstaff/api"
	"wanderstaff/code"
	"wanderstaff/scope"
	"wanderstaff/text"
)

var opWords = []string{"none", "int", "text", "load", "store", "two", "cell", "left", "right", "putl", "putr", "ask", "here", "go", "say", "jump", "else", "call", "return", "pop"}

// instrs is the instructions that s tells: an op's word, then A and B, noughts where they are missing.
func instrs(s string) (l []api.Instr) {
	if s == "" {
		return nil
	}
	for _, one := range strings.Split(s, ", ") {
		w := append(strings.Fields(one), "0", "0")
		a, _ := strconv.Atoi(w[1])
		b, _ := strconv.Atoi(w[2])
		l = append(l, api.Instr{Op: slices.Index(opWords, w[0]), A: a, B: b})
	}
	return l
}

// times is s n times, and what is behind.
func times(n int, s, behind string) string {
	return strings.TrimSuffix(strings.Repeat(s+", ", n)+behind, ", ")
}

// made is the program of s, with which nothing is wrong.
func made(t *testing.T, s string) api.Program {
	t.Helper()
	l, err := text.Parse(s)
	if err == api.OK {
		err = scope.Check(l)
	}
	p, more := code.Make(l)
	if err != api.OK || more != api.OK {
		t.Fatalf("%q is no right text: %d, %d", s, err, more)
	}
	return p
}

func tell(x any) string {
	b, err := json.Marshal(x)
	if err != nil {
		panic(err)
	}
	return string(b)
}

// height is instructions, and what Heights tells of them.
type height struct {
	s    string
	want []int
	err  api.Errno
}

func heightsAre(t *testing.T, rows []height) {
	t.Helper()
	for _, r := range rows {
		got, err := Heights(api.Code{Vars: 2, Instrs: instrs(r.s)})
		if err != r.err || !slices.Equal(got, r.want) {
			t.Errorf("%s: %v, %d comes, not %v, %d", r.s, got, err, r.want, r.err)
		}
	}
}

func TestF1Ordinary(t *testing.T) {
	heightsAre(t, []height{
		{"int 0, return", []int{0, 1}, api.OK},
		{"int 1, int 2, two 1, say, int 0, return", []int{0, 1, 2, 1, 0, 1}, api.OK},
		{"text 0, go, pop, here, ask, store 0, load 0, return", []int{0, 1, 1, 0, 1, 1, 0, 1}, api.OK},
		{"int 1, int 2, cell, store 1, load 1, left, load 1, right, call 1 2, return", []int{0, 1, 2, 1, 0, 1, 1, 2, 2, 1}, api.OK},
		{"load 0, int 1, putl, load 0, int 2, putr, call 0, return", []int{0, 1, 2, 0, 1, 2, 0, 1}, api.OK},
		// ways that come together with as many
		{"int 1, else 5, int 2, say, jump 7, int 3, say, int 0, return", []int{0, 1, 0, 1, 0, 0, 1, 0, 1}, api.OK},
		{"int 1, else 4, int 2, jump 5, int 3, return", []int{0, 1, 0, 1, 0, 1}, api.OK},
		// round and round
		{"jump 0", []int{0}, api.OK}, {"int 1, else 5, text 0, say, jump 0, int 0, return", []int{0, 1, 0, 1, 0, 0, 1}, api.OK},
		{"jump 3, int 0, return, jump 1", []int{0, 0, 1, 0}, api.OK}, {"int 1, here, jump 1", nil, api.ErrFit},
		{"here, jump 2, pop, jump 0", []int{0, 1, 1, 0}, api.OK},
		// an else that leads to the next one, to itself, and to an end
		{"int 0, else 2, int 0, return", []int{0, 1, 0, 1}, api.OK}, {"int 0, else 1, int 0, return", nil, api.ErrFit},
		{"int 0, int 0, else 3, return", []int{0, 1, 2, 1}, api.OK},
	})
}

func TestF1WhereNothingLeads(t *testing.T) {
	heightsAre(t, []height{
		{"int 0, return, int 1, say", []int{0, 1, -1, -1}, api.OK},
		{"jump 2, int 1, int 0, return", []int{0, -1, 0, 1}, api.OK},
		// nobody minds what stands there: what it needs, how it ends, and where it leads
		{"int 0, return, pop, return, jump 1", []int{0, 1, -1, -1, -1}, api.OK},
		{"jump 0, return", []int{0, -1}, api.OK}, {"jump 0, int 1, int 2, putl", []int{0, -1, -1, -1}, api.OK},
		{"jump 2, jump 0, int 3, return, else 0", []int{0, -1, 0, 1, -1}, api.OK},
	})
}

func TestF1Ends(t *testing.T) {
	heightsAre(t, []height{
		{"", nil, api.ErrEnd}, {"int 0", nil, api.ErrEnd}, {"int 0, pop", nil, api.ErrEnd}, {"here, else 0", nil, api.ErrEnd},
		{"jump 2, return, int 0", nil, api.ErrEnd}, {"call 0", nil, api.ErrEnd},
		{"int 1, else 4, int 0, return, here", nil, api.ErrEnd},
	})
}

func TestF1OtherNumbers(t *testing.T) {
	heightsAre(t, []height{
		{"int 0, jump 0", nil, api.ErrFit}, {"int 1, else 3, int 1, int 0, return", nil, api.ErrFit},
		{"int 0, int 0, else 0, return", nil, api.ErrFit}, {"int 1, else 4, int 2, jump 4, int 0, return", nil, api.ErrFit},
		{"int 1, int 2, else 5, pop, jump 5, int 0, return", nil, api.ErrFit},
	})
}

func TestF1Return(t *testing.T) {
	heightsAre(t, []height{
		{"return", nil, api.ErrFit}, {"int 0, return", []int{0, 1}, api.OK},
		{"int 0, int 0, return", nil, api.ErrFit}, {times(16, "int 0", "return"), nil, api.ErrFit},
	})
}

// needs is what an instruction needs, and gives, as the chapter lists them.
var needs = []struct {
	s           string
	needs, gift int
}{
	{"int 5", 0, 1}, {"text 0", 0, 1}, {"load 0", 0, 1}, {"here", 0, 1},
	{"store 0", 1, 0}, {"say", 1, 0}, {"pop", 1, 0},
	{"two 1", 2, 1}, {"two 5", 2, 1}, {"cell", 2, 1},
	{"left", 1, 1}, {"right", 1, 1}, {"ask", 1, 1}, {"go", 1, 1},
	{"putl", 2, 0}, {"putr", 2, 0},
	{"call 0 0", 0, 1}, {"call 1 1", 1, 1}, {"call 1 2", 2, 1}, {"call 1 3", 3, 1}, {"call 1 4", 4, 1},
}

func TestF1Needs(t *testing.T) {
	for _, n := range needs {
		for below := range 17 {
			s := times(below, "here", n.s)
			then := below - n.needs + n.gift
			var want []int
			for i := range below + 1 {
				want = append(want, i)
			}
			for i := then; i > 1; i-- {
				s, want = s+", pop", append(want, i)
			}
			if then == 0 {
				s, want = s+", here", append(want, 0)
			}
			s, want = s+", return", append(want, 1)
			err := api.OK
			if below < n.needs {
				want, err = nil, api.ErrFit
			} else if then > 16 {
				want, err = nil, api.ErrMuch
			}
			heightsAre(t, []height{{s, want, err}})
		}
	}
}

func TestF1ElseNeedsOne(t *testing.T) {
	heightsAre(t, []height{
		{"else 1, int 0, return", nil, api.ErrFit}, {"here, else 2, int 0, return", []int{0, 1, 0, 1}, api.OK},
		// jump needs none
		{"jump 1, int 0, return", []int{0, 0, 1}, api.OK},
	})
}

func TestF1Much(t *testing.T) {
	high := func(n int, behind ...int) (l []int) {
		for i := range n {
			l = append(l, i)
		}
		return append(l, behind...)
	}
	heightsAre(t, []height{
		{times(16, "here", "jump 16"), high(16, 16), api.OK}, {times(17, "here", "jump 17"), nil, api.ErrMuch},
		{times(16, "here", "left, jump 16"), high(16, 16, 16), api.OK},
		// so many lie then, not within: what it needs goes first
		{times(16, "here", "call 0 4, jump 17"), high(16, 16, 13), api.OK},
		{times(16, "here", "call 0 1, jump 17"), high(16, 16, 16), api.OK}, {times(16, "here", "call 0, jump 17"), nil, api.ErrMuch},
		{times(17, "here", ""), nil, api.ErrMuch}, {times(16, "here", ""), nil, api.ErrEnd},
	})
}

// Several errors fit, of ways that part: what is come to first is looked at first.
func TestF1Turn(t *testing.T) {
	heightsAre(t, []height{
		// the next one, which is none, is ahead of A, whose pop has nothing
		{"jump 2, pop, here, else 1", nil, api.ErrEnd},
		// A is ahead of what is behind the next one
		{"jump 2, pop, here, else 1, here", nil, api.ErrFit},
		// what is behind the next one is ahead of what is behind A
		{"jump 3, jump 2, pop, here, else 1, here", nil, api.ErrEnd},
		{"jump 3, jump 2, pop, here, else 1, jump 6, here", nil, api.ErrFit},
		// one is looked at whole ahead of the next: too much here, and another number there
		{times(16, "here", "else 19, here, here, jump 0"), nil, api.ErrMuch},
		{times(16, "here", "else 18, jump 0, here, here"), nil, api.ErrFit},
	})
}
