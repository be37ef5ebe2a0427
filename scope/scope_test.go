package scope

import (
	"encoding/json"
	"slices"
	"strconv"
	"strings"
	"testing"

	"wanderstaff/api"
	"wanderstaff/text"
)

func parsed(t *testing.T, s string) []api.Fn {
	t.Helper()
	l, err := text.Parse(s)
	if err != api.OK {
		t.Fatalf("%q is no text of functions: %d", s, err)
	}
	return l
}

func is(t *testing.T, s string, want api.Errno) {
	t.Helper()
	if err := Check(parsed(t, s)); err != want {
		t.Errorf("%s: %d comes, not %d", s, err, want)
	}
}

// row is statements of main, or a whole text, and what comes.
type row struct {
	s    string
	want api.Errno
}

func are(t *testing.T, ahead, behind string, rows []row) {
	t.Helper()
	for _, r := range rows {
		is(t, ahead+r.s+behind, r.want)
	}
}

func each(from, to int, one func(i int) string) string {
	var b strings.Builder
	for i := from; i < to; i++ {
		b.WriteString(one(i))
	}
	return b.String()
}

// letter is a name, another one for each i.
func letter(i int) string { return string(rune('a' + i)) }

func lets(from, to int) string {
	return each(from, to, func(i int) string { return "(let " + letter(i) + " 1)" })
}

func says(from, to int) string {
	return each(from, to, func(i int) string { return "(say 'w" + strconv.Itoa(i) + "')" })
}

func TestD1Functions(t *testing.T) {
	fns := func(n int) string { return each(0, n, func(i int) string { return "(" + letter(i) + " ())" }) }
	for n := range 9 {
		want := api.ErrMany
		if n >= 1 && n <= 5 {
			want = api.OK
		}
		is(t, fns(n), want)
	}
	// it comes ahead of all that is wrong with them
	is(t, "(a (x x x))(a ())(a ())(a ())(a ())(a () (say y))", api.ErrMany)
	if err := Check(nil); err != api.ErrMany {
		t.Errorf("nil: %d comes", err)
	}
	if err := Check([]api.Fn{}); err != api.ErrMany {
		t.Errorf("no functions: %d comes", err)
	}
}

func TestD1Heads(t *testing.T) {
	are(t, "", "", []row{
		{"(main ())", api.OK}, {"(f ())", api.OK}, {"(main ())(f (a b c d))", api.OK},
		{"(main ())(main ())", api.ErrName}, {"(main ())(f ())(g ())(f ())", api.ErrName}, {"(main ())(f ())(g ())(main ())", api.ErrName}, {"(main ())(f ())(f (a))", api.ErrName},
		{"(main ())(f (a a))", api.ErrName}, {"(main ())(f (a b a))", api.ErrName}, {"(main ())(f (b a a))", api.ErrName}, {"(main ())(f (a b c a))", api.ErrName},
		{"(main ())(f (a b c d e))", api.ErrMany}, {"(main ())(f (a b c d e g))", api.ErrMany}, {"(main (a b c d e))", api.ErrMany},
		{"(main (x))", api.ErrFit}, {"(main (a b c d))", api.ErrFit}, {"(f (x))(main ())", api.ErrFit},
		// functions have names of their own: what a variable is called is no matter, and a parameter of another function neither
		{"(main ())(f (f))", api.OK}, {"(main ())(f (main g))(g (f))", api.OK}, {"(main ())(f (a b))(g (a b))", api.OK}, {"(main () (let main 1) (say main))", api.OK},
		// in turn
		{"(main ())(f (a a a a a))", api.ErrName}, {"(main ())(main (a b c d e))", api.ErrName}, {"(main ())(f (a b c d e))(main ())", api.ErrMany}, {"(main ())(f (a b c d e))(g (a a))", api.ErrMany},
		{"(main ())(f (a a))(g (a b c d e))", api.ErrName}, {"(main (x))(main ())", api.ErrName}, {"(main (x x))", api.ErrName}, {"(main (x))(f (a a))", api.ErrName}, {"(main (x))(f (a b c d e))", api.ErrMany},
		// what is wrong with a function comes ahead of what is wrong with statements
		{"(main () (say x))(main ())", api.ErrName}, {"(main () (say x))(f (a a))", api.ErrName}, {"(main () (say x))(f (a b c d e))", api.ErrMany}, {"(main (x) (say y))", api.ErrFit}, {"(main (x) (let x 1))", api.ErrFit},
		{"(main (x) " + lets(0, 9) + ")", api.ErrFit}, {"(main (x) " + says(0, 17) + ")", api.ErrFit},
	})
}

func TestD1Names(t *testing.T) {
	are(t, "(main () ", ")", []row{
		{"", api.OK}, {"(let x 1) (say x)", api.OK}, {"(let x (+ 1 2)) (say x)", api.OK}, {"(let x 1) (let y x) (set x y)", api.OK},
		{"(say x)", api.ErrNone}, {"(say main)", api.ErrNone}, {"(say x) (let x 1)", api.ErrNone}, {"(let x x)", api.ErrNone}, {"(let x (+ 1 x))", api.ErrNone}, {"(let x 1) (say y)", api.ErrNone},
		{"(set x 1)", api.ErrNone}, {"(set main 1)", api.ErrNone}, {"(set x 1) (let x 1)", api.ErrNone}, {"(set x 1) (say x)", api.ErrNone}, {"(let x 1) (set y 1)", api.ErrNone}, {"(let x 1) (set x y)", api.ErrNone},
		{"(let x 1) (set x x)", api.OK}, {"(let x 1) (set x 2) (set x 3)", api.OK},
		{"(let x 1) (let x 2)", api.ErrName}, {"(let x 1) (let y 2) (let x 3)", api.ErrName}, {"(let x 1) (let x x)", api.ErrName}, {"(let x 1) (set x 2) (let x 3)", api.ErrName},
		// every statement's expressions are looked at
		{"(return x)", api.ErrNone}, {"(do x)", api.ErrNone}, {"(putl x 1)", api.ErrNone}, {"(putl 1 x)", api.ErrNone}, {"(putr x 1)", api.ErrNone}, {"(putr 1 x)", api.ErrNone},
		{"(if x () ())", api.ErrNone}, {"(while x)", api.ErrNone},
		{"(let x 1) (return x) (do x) (putl x x) (putr x x) (if x () ()) (while x)", api.OK},
		// and those within, wherever they stand
		{"(say (+ x 1))", api.ErrNone}, {"(say (+ 1 x))", api.ErrNone}, {"(say (cell 1 (cell 1 x)))", api.ErrNone}, {"(say (left x))", api.ErrNone}, {"(say (right x))", api.ErrNone}, {"(say (ask x))", api.ErrNone}, {"(say (go x))", api.ErrNone},
		{"(let x 1) (say (+ (- x 1) (cell (left x) (ask (right (go x))))))", api.OK}, {"(say (here))", api.OK},
		// a text is no name
		{"(say 'x')", api.OK}, {"(let x 1) (say 'x') (let y 'x')", api.OK},
	})
}

func TestD1Params(t *testing.T) {
	are(t, "(main ())(f (a b) ", ")(g (c))", []row{
		{"(say a) (say b) (set a b)", api.OK}, {"(let c a) (set c b)", api.OK}, {"(if a ((say b)) ((while b (set a 1))))", api.OK},
		{"(let a 1)", api.ErrName}, {"(let b 1)", api.ErrName}, {"(if 1 ((let a 1)) ())", api.ErrName}, {"(while 1 (let b 1))", api.ErrName},
		{"(say c)", api.ErrNone}, {"(set c 1)", api.ErrNone},
	})
	// they are there in their function alone, and what it lets too
	are(t, "(main () ", ")(f (a) (let b 1))", []row{
		{"(say a)", api.ErrNone}, {"(say b)", api.ErrNone}, {"(let a 1) (let b 1)", api.OK},
	})
	is(t, "(main () (let x 1))(f () (say x))", api.ErrNone)
	is(t, "(main () (let x 1))(f () (set x 1))", api.ErrNone)
	is(t, "(main () (let x 1))(f () (let x 1))(g (x))", api.OK)
}

func TestD1Blocks(t *testing.T) {
	are(t, "(main () ", ")", []row{
		// what is let in a block is there in it alone, and in those within
		{"(while 1 (let x 1) (say x))", api.OK}, {"(while 1 (let x 1)) (say x)", api.ErrNone}, {"(while 1 (let x 1)) (set x 1)", api.ErrNone}, {"(while 1 (let x 1)) (let x 1)", api.OK}, {"(while 1 (say x) (let x 1))", api.ErrNone},
		{"(if 1 ((let x 1) (say x)) ())", api.OK}, {"(if 1 ((let x 1)) ()) (say x)", api.ErrNone}, {"(if 1 ((let x 1)) ()) (let x 1)", api.OK},
		{"(if 1 () ((let x 1) (say x)))", api.OK}, {"(if 1 () ((let x 1))) (say x)", api.ErrNone}, {"(if 1 () ((let x 1))) (let x 1)", api.OK},
		{"(if 1 ((let x 1)) ((say x)))", api.ErrNone}, {"(if 1 ((let x 1)) ((set x 1)))", api.ErrNone}, {"(if 1 ((let x 1)) ((let x 1)))", api.OK}, {"(if 1 ((say x)) ((let x 1)))", api.ErrNone},
		{"(while 1 (let x 1) (while x (say x) (if x ((set x x)) ((say x)))) (say x))", api.OK}, {"(while 1 (while 1 (let x 1)) (say x))", api.ErrNone}, {"(while 1 (while 1 (let x 1)) (let x 1) (say x))", api.OK},
		{"(while 1 (while 1 (let x 1)) (let x 1)) (say x)", api.ErrNone}, {"(while 1 (let x 1)) (while 1 (say x))", api.ErrNone}, {"(while 1 (let x 1) (let y 1)) (let x 1) (say y)", api.ErrNone}, {"(while 1 (let x 1) (let y 1)) (let y 1) (say x)", api.ErrNone},
		// what stands ahead of a block does not know it
		{"(while x (let x 1))", api.ErrNone}, {"(if x ((let x 1)) ((let x 1)))", api.ErrNone},
		// what is there around a block is taken in it, and is there behind it
		{"(let x 1) (while x (let x 2))", api.ErrName}, {"(let x 1) (if x ((let x 2)) ())", api.ErrName}, {"(let x 1) (if x () ((let x 2)))", api.ErrName}, {"(let x 1) (while 1 (while 1 (if 1 () ((let x 2)))))", api.ErrName},
		{"(let x 1) (while 1 (set x 2)) (say x)", api.OK}, {"(let x 1) (while 1 (let y x)) (say x) (let y x)", api.OK}, {"(let x 1) (while 1 (let y 1)) (let x 2)", api.ErrName},
		// but not what comes behind it
		{"(while 1 (let x 1)) (let x 2) (say x)", api.OK}, {"(while 1 (say x)) (let x 2)", api.ErrNone},
	})
}

func TestD1Calls(t *testing.T) {
	are(t, "(main () ", ")(f (a) (return a))(g (a b c d))", []row{
		{"(say (f 1))", api.OK}, {"(say (main))", api.OK}, {"(do (g 1 2 3 4))", api.OK}, {"(say (f (f (f 1))))", api.OK}, {"(let f 1) (say (f f))", api.OK},
		{"(say (h))", api.ErrNone}, {"(say (h 1))", api.ErrNone}, {"(let h 1) (say (h))", api.ErrNone}, {"(say (a))", api.ErrNone}, {"(say f)", api.ErrNone}, {"(say 'f') (say (h))", api.ErrNone},
		{"(say (f))", api.ErrMany}, {"(say (f 1 2))", api.ErrMany}, {"(say (main 1))", api.ErrMany}, {"(do (g 1 2 3))", api.ErrMany}, {"(do (g))", api.ErrMany}, {"(say (f (f)))", api.ErrMany}, {"(say (f (f 1 2)))", api.ErrMany},
		{"(say (+ 1 (f)))", api.ErrMany}, {"(putl (f 1) (f))", api.ErrMany}, {"(while (f))", api.ErrMany}, {"(if (f) () ())", api.ErrMany}, {"(let x (f))", api.ErrMany}, {"(while 1 (return (f)))", api.ErrMany},
	})
	// of itself, of those ahead, and of those behind
	is(t, "(main () (do (main)) (do (f)))(f () (do (f)) (do (main)) (do (g 1)))(g (x) (return (g (f))))", api.OK)
	is(t, "(main ())(f () (do (f 1)))", api.ErrMany)
	is(t, "(main ())(f () (do (g)))", api.ErrNone)
}

func TestD1InTurn(t *testing.T) {
	are(t, "(main () ", ")(f (a))(g (a b))", []row{
		// the outer ones first
		{"(say (f x y))", api.ErrMany}, {"(say (h (f)))", api.ErrNone}, {"(say (f (h)))", api.ErrNone}, {"(say (g (f) x))", api.ErrMany}, {"(say (g x (f)))", api.ErrNone}, {"(say (g (h (f)) 1))", api.ErrNone}, {"(say (g (f x y) z))", api.ErrMany},
		{"(say (f (f (f) x)))", api.ErrMany}, {"(say (+ x (f)))", api.ErrNone}, {"(say (+ (f) x))", api.ErrMany},
		// an expression with all that is within it comes ahead of the next one
		{"(say (+ (left x) (f)))", api.ErrNone}, {"(say (+ (left (f)) x))", api.ErrMany}, {"(putl (left x) (f))", api.ErrNone}, {"(putr (left (f)) x)", api.ErrMany}, {"(putl x (f))", api.ErrNone}, {"(putl (f) x)", api.ErrMany},
		// expressions come ahead of the statement
		{"(let x 1) (let x y)", api.ErrNone}, {"(let x 1) (let x (f))", api.ErrMany}, {"(set x (f))", api.ErrMany}, {"(let y 1) (set x (f y y))", api.ErrMany}, {lets(8, 16) + "(let a (f))", api.ErrMany}, {lets(8, 16) + "(let a z)", api.ErrNone},
		// and of what is within it: Then, and Else
		{"(while (f) (say x))", api.ErrMany}, {"(while x (say (f)))", api.ErrNone}, {"(if (f) ((say x)) ((say x)))", api.ErrMany}, {"(if 1 ((say x)) ((say (f))))", api.ErrNone}, {"(if 1 ((say (f))) ((say x)))", api.ErrMany}, {"(if 1 () ((say x))) (say (f))", api.ErrNone},
		{"(while 1 (say x)) (say (f))", api.ErrNone}, {"(while 1 (say (f))) (say x)", api.ErrMany},
		// statement by statement
		{"(say x) (say (f))", api.ErrNone}, {"(say (f)) (say x)", api.ErrMany}, {"(let x 1) (let x 1) (say y)", api.ErrName}, {"(say y) (let x 1) (let x 1)", api.ErrNone},
		// a name that is taken is told ahead of too many
		{lets(8, 16) + "(let i 1)", api.ErrName}, {lets(8, 17), api.ErrMuch}, {lets(8, 17) + "(say z)", api.ErrMuch}, {lets(8, 16) + "(set z 1)", api.ErrNone},
	})
	// function by function
	is(t, "(main () (say x))(f () (let a 1) (let a 1))", api.ErrNone)
	is(t, "(main () (let a 1) (let a 1))(f () (say x))", api.ErrName)
	is(t, "(main () (do (f 1)))(f () (say x))", api.ErrMany)
}

func TestD1Vars(t *testing.T) {
	are(t, "(main () ", ")", []row{
		{lets(0, 8), api.OK}, {lets(0, 9), api.ErrMuch}, {lets(0, 8) + "(set a 1)", api.OK},
		{lets(0, 8) + "(if 1 ((let i 1)) ())", api.ErrMuch}, {lets(0, 8) + "(if 1 () ((let i 1)))", api.ErrMuch}, {lets(0, 8) + "(while 1 (let i 1))", api.ErrMuch},
		// each let counts, also those of blocks that have ended, and of a name that was there already
		{"(while 1 " + lets(0, 8) + ")", api.OK}, {"(while 1 " + lets(0, 8) + ") (let i 1)", api.ErrMuch}, {"(while 1 " + lets(0, 8) + ") (let a 1)", api.ErrMuch}, {"(while 1 " + lets(0, 7) + ") (let a 1)", api.OK},
		{"(if 1 (" + lets(0, 4) + ") (" + lets(0, 4) + "))", api.OK}, {"(if 1 (" + lets(0, 4) + ") (" + lets(0, 5) + "))", api.ErrMuch}, {"(if 1 (" + lets(0, 5) + ") (" + lets(0, 4) + "))", api.ErrMuch},
		{strings.Repeat("(while 1 (let x 1))", 8), api.OK}, {strings.Repeat("(while 1 (let x 1))", 9), api.ErrMuch},
	})
	// of the function, with parameters
	are(t, "(main ())(f (w x y z) ", ")", []row{
		{lets(0, 4), api.OK}, {lets(0, 5), api.ErrMuch}, {"(while 1 " + lets(0, 4) + ") (let a 1)", api.ErrMuch}, {lets(0, 4) + "(let w 1)", api.ErrName},
	})
	is(t, "(main ())(f (z) "+lets(0, 7)+")", api.OK)
	is(t, "(main ())(f (z) "+lets(0, 8)+")", api.ErrMuch)
	is(t, "(main () "+lets(0, 8)+")(f (x y) "+lets(0, 6)+")(g () "+lets(0, 8)+")", api.OK)
}

func TestD1Words(t *testing.T) {
	are(t, "(main () ", ")", []row{
		{says(0, 16), api.OK}, {says(0, 17), api.ErrMuch}, {says(0, 30), api.ErrMuch},
		// each counted once, and none is a text too
		{says(0, 16) + says(0, 16), api.OK}, {strings.Repeat("(say 'a')", 40), api.OK}, {says(0, 15) + "(say '')", api.OK}, {says(0, 16) + "(say '')", api.ErrMuch}, {says(0, 15) + "(say 'W1')", api.OK}, {says(0, 16) + "(say 'W1')", api.ErrMuch}, {says(0, 16) + "(say 'w1 ')", api.ErrMuch},
		// names and numbers are none
		{says(0, 16) + lets(0, 8) + "(say 1) (say 2)", api.OK},
		// wherever they stand
		{says(0, 15) + "(say (+ 'a' 'a'))", api.OK}, {says(0, 15) + "(say (+ 'a' 'b'))", api.ErrMuch}, {says(0, 15) + "(putl 'a' 'b')", api.ErrMuch}, {says(0, 16) + "(say (left (cell 1 'a')))", api.ErrMuch}, {says(0, 16) + "(do (ask 'a'))", api.ErrMuch}, {says(0, 16) + "(do (go 'a'))", api.ErrMuch}, {says(0, 16) + "(let x 'a')", api.ErrMuch},
		{says(0, 16) + "(if 'a' () ())", api.ErrMuch}, {says(0, 16) + "(if 1 ((say 'a')) ())", api.ErrMuch}, {says(0, 16) + "(if 1 () ((say 'a')))", api.ErrMuch}, {says(0, 16) + "(while 1 (say 'a'))", api.ErrMuch}, {says(0, 16) + "(return 1) (say 'a')", api.ErrMuch},
		// at last
		{says(0, 17) + "(say x)", api.ErrNone}, {says(0, 17) + "(let x 1) (let x 1)", api.ErrName}, {says(0, 17) + "(do (main 1))", api.ErrMany},
	})
	// of the program, not of a function
	is(t, "(main () "+says(0, 8)+")(f () "+says(8, 16)+")", api.OK)
	is(t, "(main () "+says(0, 8)+")(f () "+says(8, 17)+")", api.ErrMuch)
	is(t, "(main () "+says(0, 16)+")(f () "+says(0, 16)+")", api.OK)
	is(t, "(main () (do (f 'a')) "+says(0, 16)+")(f (x))", api.ErrMuch)
	is(t, "(main () "+says(0, 17)+")(f () (say x))", api.ErrNone)
}

// rich is a text with lists of all kinds, and nothing wrong.
const rich = "(main () (let x (f 1 'a')) (if x ((let y x) (say y)) ((let y (cell 1 x)) (putl y 2))) (while (< x 9) (set x (+ x 1))) (say x))(f (a b) (return (left (cell a b))))"

func TestD1ReadsAlone(t *testing.T) {
	for _, s := range []string{rich, strings.Replace(rich, "(say x)", "(say z)", 1), strings.Replace(rich, "(say x)", "(let x 1)", 1)} {
		l, before := parsed(t, s), tell(parsed(t, s))
		first := Check(l)
		if tell(l) != before {
			t.Errorf("%s has become %s", before, tell(l))
		}
		if again := Check(l); again != first {
			t.Errorf("%s: %d comes, then %d", s, first, again)
		}
	}
	// nothing is kept from one call to the next
	is(t, "(main () "+says(0, 16)+")", api.OK)
	is(t, "(main () "+says(16, 32)+lets(0, 8)+")", api.OK)
	is(t, "(main () (do (f)))", api.ErrNone)
}

func tell(l []api.Fn) string {
	b, err := json.Marshal(l)
	if err != nil {
		return err.Error()
	}
	return string(b)
}

// roomy is l with something wrong in the spare room behind every list.
func roomy(l []api.Fn) []api.Fn {
	l = slices.Clone(l)
	for i := range l {
		l[i].Params = append(slices.Clone(l[i].Params), "a", "a")[:len(l[i].Params)]
		l[i].Body = roomyStmts(l[i].Body)
	}
	return append(l, l...)[:len(l)]
}

func roomyStmts(l []api.Stmt) []api.Stmt {
	l = slices.Clone(l)
	for i := range l {
		l[i].Args = roomyExprs(l[i].Args)
		l[i].Then = roomyStmts(l[i].Then)
		l[i].Else = roomyStmts(l[i].Else)
	}
	return append(l, api.Stmt{Kind: api.StSet, Name: "none"})[:len(l)]
}

func roomyExprs(l []api.Expr) []api.Expr {
	l = slices.Clone(l)
	for i := range l {
		l[i].Args = roomyExprs(l[i].Args)
	}
	return append(l, api.Expr{Kind: api.ExName, Text: "none"})[:len(l)]
}

func TestD1SpareRoom(t *testing.T) {
	l := roomy(parsed(t, rich))
	if err := Check(l); err != api.OK {
		t.Errorf("%d comes", err)
	}
	st := l[0].Body[:len(l[0].Body)+1]
	if st[len(st)-1].Name != "none" || l[1].Params[:3][2] != "a" {
		t.Error("spare room has changed")
	}
}

func TestD1Strays(t *testing.T) {
	one, x := api.Expr{Kind: api.ExInt, N: 1}, api.Expr{Kind: api.ExName, Text: "x"}
	stray := []api.Stmt{{Kind: api.StSet, Name: "x", Args: []api.Expr{x}}}
	// fields that a kind has not mean nothing
	body := []api.Stmt{
		{Kind: api.StSay, Name: "x", Args: []api.Expr{one}, Then: stray, Else: stray},
		{Kind: api.StWhile, Name: "x", Args: []api.Expr{one}, Else: stray},
		{Kind: api.StLet, Name: "y", Args: []api.Expr{one}, Then: stray, Else: stray},
		{Kind: api.StSay, Args: []api.Expr{{Kind: api.ExInt, Text: "x", Args: []api.Expr{x}}}},
		{Kind: api.StSay, Args: []api.Expr{{Kind: api.ExText, Text: "x", Args: []api.Expr{x}}}},
		{Kind: api.StSay, Args: []api.Expr{{Kind: api.ExName, Text: "y", Args: []api.Expr{x}}}},
		{Kind: api.StSay, Args: []api.Expr{{Kind: api.ExHere, Text: "x", Args: []api.Expr{x}}}},
	}
	if err := Check([]api.Fn{{Name: "main", Body: body}}); err != api.OK {
		t.Errorf("%d comes", err)
	}
	// empty lists are as good as none
	body = []api.Stmt{{Kind: api.StIf, Args: []api.Expr{{Kind: api.ExHere, Args: []api.Expr{}}}, Then: []api.Stmt{}, Else: []api.Stmt{}}}
	if err := Check([]api.Fn{{Name: "main", Params: []string{}, Body: body}}); err != api.OK {
		t.Errorf("%d comes", err)
	}
}
