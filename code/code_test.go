package code

import (
	"encoding/json"
	"slices"
	"strconv"
	"strings"
	"testing"

	"wanderstaff/api"
	"wanderstaff/scope"
	"wanderstaff/text"
)

// parsed is the functions of s, with which nothing is wrong.
func parsed(t *testing.T, s string) []api.Fn {
	t.Helper()
	l, err := text.Parse(s)
	if err == api.OK {
		err = scope.Check(l)
	}
	if err != api.OK {
		t.Fatalf("%q is no right text: %d", s, err)
	}
	return l
}

func made(t *testing.T, s string) api.Program {
	t.Helper()
	p, err := Make(parsed(t, s))
	if err != api.OK {
		t.Fatalf("%q: %d comes", s, err)
	}
	return p
}

// written is instructions as a test may write them: an op's word, then A and B, without those that are 0 behind.
func written(l []api.Instr) string {
	words := []string{"none", "int", "text", "load", "store", "two", "cell", "left", "right", "putl", "putr", "ask", "here", "go", "say", "jump", "else", "call", "return", "pop"}
	var out []string
	for _, in := range l {
		s := words[in.Op]
		if in.A != 0 || in.B != 0 || strings.Contains(" int text load store two jump else call ", " "+s+" ") {
			s += " " + strconv.Itoa(in.A)
		}
		if in.B != 0 || s[:2] == "ca" {
			s += " " + strconv.Itoa(in.B)
		}
		out = append(out, s)
	}
	return strings.Join(out, ", ")
}

// row is statements of main, and the instructions that come of them ahead of the last two.
type row struct{ s, want string }

const last = "int 0, return"

func are(t *testing.T, ahead, behind string, rows []row) {
	t.Helper()
	for _, r := range rows {
		got := written(made(t, ahead+r.s+behind).Codes[0].Instrs)
		want := last
		if r.want != "" {
			want = r.want + ", " + last
		}
		if got != want {
			t.Errorf("%s: %s comes, not %s", r.s, got, want)
		}
	}
}

func TestE1Expressions(t *testing.T) {
	are(t, "(main () (do ", "))(f (a b c d))(g ())", []row{
		{"7", "int 7, pop"}, {"-1073741824", "int -1073741824, pop"}, {"0", "int 0, pop"}, {"'a'", "text 0, pop"}, {"''", "text 0, pop"}, {"(here)", "here, pop"},
		{"(+ 1 2)", "int 1, int 2, two 1, pop"}, {"(- 1 2)", "int 1, int 2, two 2, pop"}, {"(* 1 2)", "int 1, int 2, two 3, pop"}, {"(< 1 2)", "int 1, int 2, two 4, pop"}, {"(= 1 2)", "int 1, int 2, two 5, pop"},
		{"(cell 1 2)", "int 1, int 2, cell, pop"}, {"(left 1)", "int 1, left, pop"}, {"(right 1)", "int 1, right, pop"}, {"(ask 1)", "int 1, ask, pop"}, {"(go 1)", "int 1, go, pop"},
		// the function, and how many arguments
		{"(main)", "call 0 0, pop"}, {"(g)", "call 2 0, pop"}, {"(f 4 3 2 1)", "int 4, int 3, int 2, int 1, call 1 4, pop"},
		// arguments first, those within others likewise
		{"(- (+ 1 2) (* 3 4))", "int 1, int 2, two 1, int 3, int 4, two 3, two 2, pop"}, {"(f 1 (left (right 2)) (g) (here))", "int 1, int 2, right, left, call 2 0, here, call 1 4, pop"},
		{"(go (ask (cell 'a' (main))))", "text 0, call 0 0, cell, ask, go, pop"},
	})
}

func TestE1Statements(t *testing.T) {
	are(t, "(main () ", ")", []row{
		{"", ""},
		{"(let x 5)", "int 5, store 0"}, {"(let x 5) (set x 6)", "int 5, store 0, int 6, store 0"}, {"(let x 5) (set x (+ x x))", "int 5, store 0, load 0, load 0, two 1, store 0"},
		{"(say 1)", "int 1, say"}, {"(return 1)", "int 1, return"}, {"(do 1)", "int 1, pop"}, {"(putl 1 2)", "int 1, int 2, putl"}, {"(putr 1 2)", "int 1, int 2, putr"},
		// what nothing leads to is written too
		{"(return 1) (say 2)", "int 1, return, int 2, say"},
	})
}

func TestE1Ways(t *testing.T) {
	are(t, "(main () ", ")", []row{
		{"(if 1 ((say 2)) ((say 3)))", "int 1, else 5, int 2, say, jump 7, int 3, say"},
		{"(if 1 () ())", "int 1, else 3, jump 3"}, {"(if 1 ((say 2)) ())", "int 1, else 5, int 2, say, jump 5"}, {"(if 1 () ((say 3)))", "int 1, else 3, jump 5, int 3, say"},
		{"(while 1)", "int 1, else 3, jump 0"}, {"(while 1 (say 'a'))", "int 1, else 5, text 0, say, jump 0"},
		// to where its expression begins, not to its last instruction
		{"(say 9) (while (< 1 2) (say 3)) (say 4)", "int 9, say, int 1, int 2, two 4, else 9, int 3, say, jump 2, int 4, say"},
		{"(say 9) (if (< 1 2) ((say 3)) ((say 4))) (say 5)", "int 9, say, int 1, int 2, two 4, else 9, int 3, say, jump 11, int 4, say, int 5, say"},
		// within one another
		{"(while 1 (while 2 (say 3)))", "int 1, else 8, int 2, else 7, int 3, say, jump 2, jump 0"},
		{"(while 1 (if 2 ((say 3)) ((say 4))))", "int 1, else 10, int 2, else 7, int 3, say, jump 9, int 4, say, jump 0"},
		{"(if 1 ((if 2 () ())) ((while 3)))", "int 1, else 6, int 2, else 5, jump 5, jump 9, int 3, else 9, jump 6"},
	})
}

func TestE1Vars(t *testing.T) {
	are(t, "(main () ", ")", []row{
		{"(let x 1) (let y x) (say y)", "int 1, store 0, load 0, store 1, load 1, say"},
		// of Then ahead of Else's; each let has a variable of its own, of the same name too
		{"(if 1 ((let x 2) (say x)) ((let x 3) (say x))) (let x 4) (say x)", "int 1, else 7, int 2, store 0, load 0, say, jump 11, int 3, store 1, load 1, say, int 4, store 2, load 2, say"},
		{"(let a 1) (while a (let b a) (set a b)) (let b a) (set b a)", "int 1, store 0, load 0, else 9, load 0, store 1, load 1, store 0, jump 2, load 0, store 2, load 0, store 2"},
		// what stands around is there within, and is again behind
		{"(let a 1) (if a ((let b 2) (if b ((let c a)) ((let c b) (say c)))) ((set a a))) (set a a)", "int 1, store 0, load 0, else 16, int 2, store 1, load 1, else 11, load 0, store 2, jump 15, load 1, store 3, load 3, say, jump 18, load 0, store 0, load 0, store 0"},
	})
	for _, r := range []struct {
		s            string
		params, vars int
	}{
		{"()", 0, 0}, {"(a)", 1, 1}, {"(a b c d)", 4, 4}, {"(a) (let x 1)", 1, 2}, {"(a b) (while 1 (let x 1)) (while 1 (let x 1))", 2, 4}, {"() (if 1 ((let x 1)) ((let x 1) (let y 1)))", 0, 3}, {"() (return 1) (let x 1)", 0, 1}, {"(a b c d) (let e 1) (let f 1) (let g 1) (let h 1)", 4, 8},
		// a name that is let no more often than once is one variable, however often it is set
		{"() (let x 1) (set x 2) (while 1 (set x 3))", 0, 1},
	} {
		c := made(t, "(main ())(f "+r.s+")").Codes[1]
		if c.Params != r.params || c.Vars != r.vars {
			t.Errorf("%s: %d, %d come, not %d, %d", r.s, c.Params, c.Vars, r.params, r.vars)
		}
	}
}

func TestE1Functions(t *testing.T) {
	p := made(t, "(main () (let x (f 1 2)) (say x))(f (a b) (let c b) (return (g a c)))(g (b a) (return (- b a)) (do (main)))")
	want := []string{
		"int 1, int 2, call 1 2, store 0, load 0, say, int 0, return",
		"load 1, store 2, load 0, load 2, call 2 2, return, int 0, return",
		"load 0, load 1, two 2, return, call 0 0, pop, int 0, return",
	}
	for i, c := range p.Codes {
		if got := written(c.Instrs); got != want[i] {
			t.Errorf("function %d: %s comes, not %s", i, got, want[i])
		}
	}
	if len(p.Codes) != 3 {
		t.Errorf("%d codes come", len(p.Codes))
	}
	// a variable that is called as a function is
	are(t, "(main () ", ")(f (x))", []row{{"(let f 1) (do (f f))", "int 1, store 0, load 0, call 1 1, pop"}})
	if n := len(made(t, "(a ())(b ())(c ())(d ())(e ())").Codes); n != 5 {
		t.Errorf("of five functions %d codes come", n)
	}
}

func TestE1Words(t *testing.T) {
	for _, r := range []struct {
		s    string
		want []string
	}{
		{"(main ())", nil}, {"(main () (say ''))", []string{""}}, {"(main () (say 'b') (say 'a'))", []string{"b", "a"}}, {"(main () (say 'b') (say 'a') (say 'b') (say 'A'))", []string{"b", "a", "A"}},
		// in the order in which they stand, wherever that is
		{"(main () (let x (+ 'z' (left (cell 'y' 'x')))) (putl 'w' 'v'))", []string{"z", "y", "x", "w", "v"}},
		{"(main () (if 'c' ((say 'b') (while 'x' (say 'y'))) ((say 'a'))) (return 'd'))", []string{"c", "b", "x", "y", "a", "d"}},
		{"(main () (do (f 'q' 'p')))(f (a b) (say 'q') (say 'o') (say 'p'))", []string{"q", "p", "o"}},
		// names are none
		{"(main () (let x 'y') (let y x) (say y) (do (main)))", []string{"y"}},
	} {
		if got := made(t, r.s).Words; !slices.Equal(got, r.want) {
			t.Errorf("%s: %q come, not %q", r.s, got, r.want)
		}
	}
	// of the program: a function goes on with the numbers of the one ahead
	p := made(t, "(main () (say 'a') (say 'b') (say 'a'))(f () (say 'c') (say 'b'))")
	if got := written(p.Codes[0].Instrs); got != "text 0, say, text 1, say, text 0, say, "+last {
		t.Errorf("main: %s comes", got)
	}
	if got := written(p.Codes[1].Instrs); got != "text 2, say, text 1, say, "+last {
		t.Errorf("f: %s comes", got)
	}
}

// limit: of s comes ErrMuch, and nothing else, or something that is not too much.
func limit(t *testing.T, s string, much bool) {
	t.Helper()
	p, err := Make(parsed(t, s))
	if much && (err != api.ErrMuch || len(p.Codes) > 0 || len(p.Words) > 0) {
		t.Errorf("%s: %d, %d codes, %d words come, not ErrMuch alone", s, err, len(p.Codes), len(p.Words))
	}
	if !much && (err != api.OK || len(p.Codes) == 0) {
		t.Errorf("%s: %d, %d codes come", s, err, len(p.Codes))
	}
}

func TestE1Instructions(t *testing.T) {
	dos := func(n int) string { return strings.Repeat("(do 1)", n) }
	for _, r := range []struct {
		s     string
		count int
	}{
		{dos(98), 198}, {dos(98) + "(if 1 () ())", 201}, {dos(99), 200}, {dos(100), 202}, {dos(97) + "(if 1 () ())", 199}, {"(while 1 " + dos(97) + ")", 199}, {"(while 1 " + dos(98) + ")", 201}, {"(if 1 (" + dos(96) + "(do (here))) ())", 199}, {dos(96) + "(if 1 () ((do (left 1))))", 200}, {"(if 1 (" + dos(98) + ") ())", 201}, {"(if 1 () (" + dos(98) + "))", 201}, {"(return 1)" + dos(98), 200}, {"(return 1)" + dos(99), 202}, {"(do (left 1))" + dos(98), 201},
	} {
		limit(t, "(main () "+r.s+")", r.count > 200)
		limit(t, "(main ())(f () "+r.s+")", r.count > 200)
		if r.count <= 200 {
			if got := len(made(t, "(main () "+r.s+")").Codes[0].Instrs); got != r.count {
				t.Errorf("%s: %d instructions come, not %d", r.s, got, r.count)
			}
		}
	}
	// of one function, not of all; the word of a text that is too much isn't told either
	limit(t, "(main () "+dos(99)+")(f () "+dos(99)+")", false)
	limit(t, "(main () (say 'a'))(f () "+dos(100)+")", true)
	limit(t, "(main () "+dos(100)+")(f () (say 'a'))", true)
}

// heap is an expression within which n values lie at the most; f has four parameters.
func heap(n int) string {
	switch {
	case n == 1:
		return "1"
	case n < 4:
		return "(+ 1 " + heap(n-1) + ")"
	}
	return "(f 1 1 1 " + heap(n-3) + ")"
}

// most: where form has an expression, one of n values is not too much, and one of n + 1 is.
func most(t *testing.T, form string, n int) {
	t.Helper()
	for _, ahead := range []string{"(main () ", "(main ())(g () "} {
		limit(t, ahead+strings.ReplaceAll(form, "%", heap(n))+")(f (a b c d))(h (a b))", false)
		limit(t, ahead+strings.ReplaceAll(form, "%", heap(n+1))+")(f (a b c d))(h (a b))", true)
	}
}

func TestE1Stack(t *testing.T) {
	for _, form := range []string{"(say %)", "(do %)", "(return %)", "(let x %)", "(let x 1) (set x %)", "(putl % 1)", "(putr % 1)", "(if % () ())", "(while %)", "(if 1 ((do %)) ())", "(if 1 () ((do %)))", "(while 1 (do %))", "(do (left (right %)))", "(do (go (ask %)))"} {
		most(t, form, 16)
	}
	// what nothing leads to counts too
	most(t, "(return 1) (do %)", 16)
	// what is made waits for what is behind
	for _, form := range []string{"(putl 1 %)", "(putr 1 %)", "(do (+ 1 %))", "(do (= 'a' %))", "(do (cell (here) %))", "(do (h (main) %))", "(putl % %)", "(do (cell % %))"} {
		most(t, form, 15)
	}
	most(t, "(do (f 1 2 3 %))", 13)
	most(t, "(do (f 1 2 % 3))", 14)
	most(t, "(putl (left 1) (f 1 (+ 2 3) (cell 4 %) 5))", 12)
	// but not for what is ahead, and statements leave nothing
	for _, form := range []string{"(do (+ % 1))", "(do (cell % 1))", "(do (h % 1))", "(say %) (say %)", "(do 1) (do 2) (do %) (do 3)", "(while % (do %) (do %))", "(if % ((say %)) ((say %)))"} {
		most(t, form, 16)
	}
	// whatever is made of nothing is a value
	for _, x := range []string{"1", "'a'", "v", "(here)", "(main)"} {
		deep := "(f 1 1 1 (f 1 1 1 (f 1 1 1 (f 1 1 1 (f 1 1 1 %)))))"
		limit(t, "(main () (let v 1) (say "+strings.Replace(deep, "%", x, 1)+"))(f (a b c d))", false)
		limit(t, "(main () (let v 1) (say "+strings.Replace(deep, "%", "(+ 1 "+x+")", 1)+"))(f (a b c d))", true)
	}
}

// rich is a text with lists of all kinds.
const rich = "(main () (let x (f 1 'a')) (if x ((let y x) (say y)) ((let y (cell 1 x)) (putl y 'b'))) (while (< x 9) (set x (+ x 1))) (say x))(f (a b) (return (left (cell a b))))"

func tell(x any) string {
	b, err := json.Marshal(x)
	if err != nil {
		return err.Error()
	}
	return string(b)
}

func TestE1ReadsAlone(t *testing.T) {
	tooMuch := "(main () (do 'z') " + strings.Repeat("(do 1)", 99) + ")"
	for _, s := range []string{rich, tooMuch} {
		l := parsed(t, s)
		before := tell(l)
		p, err := Make(l)
		if tell(l) != before {
			t.Errorf("%s has become %s", before, tell(l))
		}
		first := tell(p)
		spoil(l)
		if tell(p) != first {
			t.Errorf("%s has become %s", first, tell(p))
		}
		// nothing is kept from one call to the next
		if again, errAgain := Make(parsed(t, s)); tell(again) != first || errAgain != err {
			t.Errorf("%s, %d comes, then %s, %d", first, err, tell(again), errAgain)
		}
	}
}

// spoil changes all that a list of l has.
func spoil(l []api.Fn) {
	for i := range l {
		for j := range l[i].Params {
			l[i].Params[j] = "none"
		}
		for j := range l[i].Body {
			for k := range l[i].Body[j].Args {
				l[i].Body[j].Args[k] = api.Expr{Kind: api.ExText, Text: "none"}
			}
			l[i].Body[j] = api.Stmt{}
		}
		l[i] = api.Fn{}
	}
}

func TestE1NewMemory(t *testing.T) {
	l := parsed(t, rich)
	p, _ := Make(l)
	want := tell(p)
	// each list is memory of its own, with its spare room
	for i := range p.Codes {
		q, _ := Make(l)
		in := q.Codes[i].Instrs
		in = in[:cap(in)]
		for j := range in {
			in[j] = api.Instr{Op: 99}
		}
		q.Codes[i].Instrs = p.Codes[i].Instrs
		if tell(q) != want {
			t.Errorf("code %d is not alone: %s", i, tell(q))
		}
	}
	q, _ := Make(l)
	for i := range q.Words {
		q.Words[i] = "none"
	}
	if again, _ := Make(l); tell(again) != want || tell(p) != want {
		t.Errorf("%s comes, then %s, and the first one is %s now", want, tell(again), tell(p))
	}
}

func TestE1Strays(t *testing.T) {
	one, x := api.Expr{Kind: api.ExInt, N: 1}, api.Expr{Kind: api.ExText, Text: "x"}
	stray := []api.Stmt{{Kind: api.StLet, Name: "x", Args: []api.Expr{x}}}
	// fields that a kind has not mean nothing
	body := []api.Stmt{
		{Kind: api.StSay, Name: "x", Args: []api.Expr{one}, Then: stray, Else: stray},
		{Kind: api.StWhile, Name: "x", Args: []api.Expr{{Kind: api.ExInt, N: 2, Text: "x", Args: []api.Expr{x}}}, Else: stray},
		{Kind: api.StLet, Name: "y", Args: []api.Expr{{Kind: api.ExHere, N: 3, Text: "x", Args: []api.Expr{x}}}, Then: stray, Else: stray},
		{Kind: api.StDo, Args: []api.Expr{{Kind: api.ExName, N: 4, Text: "y", Args: []api.Expr{x}}}},
		{Kind: api.StDo, Args: []api.Expr{{Kind: api.ExText, N: 5, Text: "z", Args: []api.Expr{x}}}},
		{Kind: api.StDo, Args: []api.Expr{{Kind: api.ExLeft, N: 6, Text: "x", Args: []api.Expr{{Kind: api.ExCall, N: 7, Text: "main"}}}}},
		{Kind: api.StDo, Args: []api.Expr{{Kind: api.ExTwo, N: 2, Text: "x", Args: []api.Expr{one, one}}}},
	}
	p, err := Make([]api.Fn{{Name: "main", Body: body}})
	if err != api.OK || len(p.Codes) != 1 || !slices.Equal(p.Words, []string{"z"}) {
		t.Fatalf("%d, %s comes", err, tell(p))
	}
	want := "int 1, say, int 2, else 5, jump 2, here, store 0, load 0, pop, text 0, pop, call 0 0, left, pop, int 1, int 1, two 2, pop, " + last
	if got := written(p.Codes[0].Instrs); got != want || p.Codes[0].Vars != 1 {
		t.Errorf("%s, with %d variables, comes, not %s", got, p.Codes[0].Vars, want)
	}
	// empty lists are as good as none
	body = []api.Stmt{{Kind: api.StIf, Args: []api.Expr{{Kind: api.ExHere, Args: []api.Expr{}}}, Then: []api.Stmt{}, Else: []api.Stmt{}}}
	p, err = Make([]api.Fn{{Name: "main", Params: []string{}, Body: body}})
	if err != api.OK || written(p.Codes[0].Instrs) != "here, else 3, jump 3, "+last {
		t.Errorf("%d, %s comes", err, tell(p))
	}
}

// TestE1Wrong has functions with which something is wrong: of these nothing is promised but that a call ends, and does not panic.
func TestE1Wrong(t *testing.T) {
	for _, s := range []string{"", "(main (a b c d e a) (say x) (set y 1) (do (f)))", "(main () (let x x) (let x 1))(main ())"} {
		l, err := text.Parse(s)
		if err != api.OK {
			t.Fatalf("%q: %d", s, err)
		}
		Make(l)
	}
	for kind := -1; kind <= 12; kind++ {
		for _, args := range [][]api.Expr{nil, {{}}, {{}, {Kind: 99}, {Kind: -1}}} {
			x := api.Expr{Kind: kind, N: -1, Text: "\xff", Args: args}
			Make([]api.Fn{{}, {Body: []api.Stmt{{Kind: kind, Args: []api.Expr{x, x}}, {Kind: kind}, {}}}})
		}
	}
	Make(nil)
	Make(make([]api.Fn, 9))
}
