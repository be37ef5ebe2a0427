package text

import (
	"encoding/json"
	"reflect"
	"strings"
	"testing"

	"wanderstaff/api"
)

func num(n int) api.Expr      { return api.Expr{Kind: api.ExInt, N: n} }
func txt(s string) api.Expr   { return api.Expr{Kind: api.ExText, Text: s} }
func named(s string) api.Expr { return api.Expr{Kind: api.ExName, Text: s} }

func of(kind int, args ...api.Expr) api.Expr { return api.Expr{Kind: kind, Args: args} }

func two(op int, a, b api.Expr) api.Expr {
	return api.Expr{Kind: api.ExTwo, N: op, Args: []api.Expr{a, b}}
}

func call(s string, args ...api.Expr) api.Expr {
	return api.Expr{Kind: api.ExCall, Text: s, Args: args}
}

func do(kind int, args ...api.Expr) api.Stmt { return api.Stmt{Kind: kind, Args: args} }

func let(kind int, name string, x api.Expr) api.Stmt {
	return api.Stmt{Kind: kind, Name: name, Args: []api.Expr{x}}
}

func fn(name string, params []string, body ...api.Stmt) api.Fn {
	return api.Fn{Name: name, Params: params, Body: body}
}

// tell writes everything of what it is given; nil and a list without entries are told the same.
func tell(l []api.Fn) string {
	b, err := json.Marshal(l)
	if err != nil {
		return err.Error()
	}
	return strings.ReplaceAll(string(b), "null", "[]")
}

func isParsed(t *testing.T, s string, want ...api.Fn) {
	t.Helper()
	got, err := Parse(s)
	if err != api.OK || tell(got) != tell(want) {
		t.Errorf("Parse(%q): %s %d comes, not %s", s, tell(got), err, tell(want))
	}
}

func isWrong(t *testing.T, s string, want api.Errno) {
	t.Helper()
	got, err := Parse(s)
	if err != want || len(got) > 0 {
		t.Errorf("Parse(%q): %s %d comes, not %d", s, tell(got), err, want)
	}
}

// isStmt tells whether a function of that statement alone is parsed so.
func isStmt(t *testing.T, s string, want api.Stmt) {
	t.Helper()
	isParsed(t, "(main () "+s+")", fn("main", nil, want))
}

func isStmtWrong(t *testing.T, s string, want api.Errno) {
	t.Helper()
	isWrong(t, "(main () "+s+")", want)
}

func isExpr(t *testing.T, s string, want api.Expr) {
	t.Helper()
	isStmt(t, "(say "+s+")", do(api.StSay, want))
}

func isExprWrong(t *testing.T, s string, want api.Errno) {
	t.Helper()
	isStmtWrong(t, "(say "+s+")", want)
}

// within puts s into so many of begin, each ended by a bracket.
func within(begin string, times int, s string) string {
	return strings.Repeat(begin, times) + s + strings.Repeat(")", times)
}

var taken = strings.Fields("let set if while say return putl putr do cell left right ask here go")

func TestC1Name(t *testing.T) {
	for _, s := range []string{"a", "z", "x", "main", "abcdefgh", "zzzzzzzz", "lets", "le", "gone", "g", "got", "putx", "els", "whil", "returns", "then", "fn"} {
		if !Name(s) {
			t.Errorf("%q is no name", s)
		}
	}
	for _, s := range append([]string{"", "abcdefghi", strings.Repeat("a", 1000), "A", "Ab", "aB", "a1", "1", "a b", " a", "a ", "a\n", "a_b", "a-b", "a'", "(a", "a)", "é", "aé", "\x00", "a\x00", "\xff", "`", "{", "a{", "+", "-", "*", "<", "="}, taken...) {
		if Name(s) {
			t.Errorf("%q is a name", s)
		}
	}
	for c := range 256 {
		if got, want := Name(string([]byte{byte(c)})), c >= 'a' && c <= 'z'; got != want {
			t.Errorf("byte %d: %t comes, not %t", c, got, want)
		}
	}
}

func TestC1Word(t *testing.T) {
	for _, s := range []string{"", " ", "~", "a", "let", "(a)", "\"", "A1 +-*<=", "twelve bytes", "            "} {
		if !Word(s) {
			t.Errorf("%q is no word", s)
		}
	}
	for _, s := range []string{"thirteen byte", strings.Repeat("a", 1000), "'", "it's", "\n", "a\nb", "\t", "\x1f", "\x7f", "a\x00", "\x80", "\xff", "é"} {
		if Word(s) {
			t.Errorf("%q is a word", s)
		}
	}
	for c := range 256 {
		if got, want := Word(string([]byte{'a', byte(c), 'b'})), c >= 32 && c <= 126 && c != 39; got != want {
			t.Errorf("byte %d: %t comes, not %t", c, got, want)
		}
	}
}

func TestC1Functions(t *testing.T) {
	isParsed(t, "")
	isParsed(t, " ")
	isParsed(t, "\n \n")
	isParsed(t, "(main ())", fn("main", nil))
	isParsed(t, "(main(a))", fn("main", []string{"a"}))
	// how many, and whether one is there twice, is not asked here
	isParsed(t, "(f (a b c d e f g h i a))(f ())", fn("f", strings.Fields("a b c d e f g h i a")), fn("f", nil))
	isParsed(t, "(f (a) (say a) (say 1))\n(g ())\n", fn("f", []string{"a"}, do(api.StSay, named("a")), do(api.StSay, num(1))), fn("g", nil))
	isParsed(t, strings.Repeat("(main())", 187), mains(187)...)
	isParsed(t, "(main () (let x (+ 1 2)) (say x))", fn("main", nil,
		let(api.StLet, "x", two(api.TwoAdd, num(1), num(2))), do(api.StSay, named("x"))))
}

func mains(n int) []api.Fn {
	var l []api.Fn
	for range n {
		l = append(l, fn("main", nil))
	}
	return l
}

func TestC1FunctionsWrong(t *testing.T) {
	rows := []struct {
		s    string
		want api.Errno
	}{
		{"(", api.ErrEnd}, {"( \n", api.ErrEnd}, {"(main", api.ErrEnd}, {"(main ", api.ErrEnd}, {"(main (", api.ErrEnd}, {"(main (x", api.ErrEnd},
		{"(main ()", api.ErrEnd}, {"(main () ", api.ErrEnd}, {"(main () (say 1)", api.ErrEnd}, {"(main ()) (", api.ErrEnd},
		{")", api.ErrForm}, {"main", api.ErrForm}, {"'a'", api.ErrForm}, {"'", api.ErrForm}, {"5", api.ErrForm}, {"\t", api.ErrForm}, {"\r\n", api.ErrForm}, {"\x00", api.ErrForm},
		{"((", api.ErrForm}, {"()", api.ErrForm}, {"('main' ())", api.ErrForm}, {"(main x)", api.ErrForm}, {"(main)", api.ErrForm}, {"(main 'x')", api.ErrForm},
		{"(main (()))", api.ErrForm}, {"(main ('x'))", api.ErrForm}, {"(main ((x)))", api.ErrForm},
		{"(main () say)", api.ErrForm}, {"(main () 1)", api.ErrForm}, {"(main () 'a')", api.ErrForm},
		{"(main ()))", api.ErrForm}, {"(main ()) )", api.ErrForm}, {"(main ()) x", api.ErrForm}, {"(main ())\t", api.ErrForm}, {"(main ()) \x00", api.ErrForm},
		{"(Main ())", api.ErrName}, {"(go ())", api.ErrName}, {"(+ ())", api.ErrName}, {"(5 ())", api.ErrName}, {"(abcdefghi ())", api.ErrName},
		{"(main\t())", api.ErrName}, {"(\x00main ())", api.ErrName}, {"(main[] ())", api.ErrName}, {"(é ())", api.ErrName},
		{"(main (5))", api.ErrName}, {"(main (a B))", api.ErrName}, {"(main (a let))", api.ErrName}, {"(main (a,b))", api.ErrName}, {"(main (abcdefghi))", api.ErrName},
		// what is wrong first counts, though more is wrong behind
		{"(Main", api.ErrName}, {"(main (X", api.ErrName}, {"(main (a go (", api.ErrName}, {"(main x (Y", api.ErrForm}, {"x (Y", api.ErrForm},
		{"(f ()) (G ()) x", api.ErrName}, {"(f () (zap)) (G ())", api.ErrKind},
	}
	for _, r := range rows {
		isWrong(t, r.s, r.want)
	}
	for _, s := range taken {
		isWrong(t, "("+s+" ())", api.ErrName)
		isWrong(t, "(main (a "+s+"))", api.ErrName)
	}
}

func TestC1Much(t *testing.T) {
	f := "(main ())"
	isParsed(t, strings.Repeat(" ", 1500))
	isWrong(t, strings.Repeat(" ", 1501), api.ErrMuch)
	isParsed(t, f+strings.Repeat("\n", 1500-len(f)), fn("main", nil))
	isParsed(t, strings.Repeat("\n", 1500-len(f))+f, fn("main", nil))
	isWrong(t, f+strings.Repeat("\n", 1501-len(f)), api.ErrMuch)
	// ahead of all that else is wrong
	isWrong(t, strings.Repeat(")", 1500), api.ErrForm)
	isWrong(t, strings.Repeat(")", 1501), api.ErrMuch)
	isWrong(t, strings.Repeat("(", 1<<20), api.ErrMuch)
}

func TestC1Blanks(t *testing.T) {
	want := []api.Fn{
		fn("main", []string{"a", "b"},
			let(api.StLet, "x", two(api.TwoAdd, named("a"), txt(" ( "))),
			api.Stmt{Kind: api.StIf, Args: []api.Expr{num(1)}, Then: []api.Stmt{do(api.StSay, of(api.ExHere))}},
			do(api.StLeft, num(1), txt("")), do(api.StRight, txt("a"), txt("b"))),
		fn("f", nil),
	}
	isParsed(t, "(main(a b)(let x(+ a' ( '))(if 1((say(here)))())(putl 1'')(putr'a''b'))(f())", want...)
	isParsed(t, "(main (a b) (let x (+ a ' ( ')) (if 1 ((say (here))) ()) (putl 1 '') (putr 'a' 'b')) (f ())", want...)
	isParsed(t, " ( main ( a\nb ) ( let\nx ( + a ' ( ' ) ) ( if 1 ( ( say ( here ) ) ) ( ) ) ( putl\n1 '' ) ( putr 'a' 'b' ) ) ( f ( ) ) ", want...)
	isParsed(t, "\n\n(\nmain \n(a\n b\n)\n(let \n\n x(\n+\na\n' ( '\n)\n)(if\n1(\n(say(here\n)\n)\n)\n(\n)\n)(putl\n1\n'')(putr\n'a'\n'b')\n)\n(f\n(\n)\n)\n\n", want...)
	// nothing else is a blank
	for _, s := range []string{"\t", "\r", "\v", "\x00", "\u00a0", "\u2003"} {
		isWrong(t, "(main ())"+s, api.ErrForm)
		isStmtWrong(t, s+"(say 1)", api.ErrForm)
		isStmtWrong(t, "("+s+"say 1)", api.ErrKind)
		isStmtWrong(t, "(say "+s+"1)", api.ErrName)
		isStmtWrong(t, "(say (f"+s+"1))", api.ErrName)
		isStmtWrong(t, "(say (f)"+s+")", api.ErrForm)
	}
}

func TestC1Statements(t *testing.T) {
	one, a := num(1), do(api.StSay, txt("a"))
	isStmt(t, "(let x 1)", let(api.StLet, "x", one))
	isStmt(t, "(set abcdefgh 'a')", let(api.StSet, "abcdefgh", txt("a")))
	isStmt(t, "(say 'a')", a)
	isStmt(t, "(return 1)", do(api.StReturn, one))
	isStmt(t, "(do x)", do(api.StDo, named("x")))
	isStmt(t, "(putl x 1)", do(api.StLeft, named("x"), one))
	isStmt(t, "(putr x 1)", do(api.StRight, named("x"), one))
	isStmt(t, "(if 1 () ())", do(api.StIf, one))
	isStmt(t, "(if 1 ((say 'a')) ())", api.Stmt{Kind: api.StIf, Args: []api.Expr{one}, Then: []api.Stmt{a}})
	isStmt(t, "(if 1 () ((say 'a') (do 1)))", api.Stmt{Kind: api.StIf, Args: []api.Expr{one}, Else: []api.Stmt{a, do(api.StDo, one)}})
	isStmt(t, "(if 1 ((do 1) (do 1)) ((say 'a')))", api.Stmt{Kind: api.StIf, Args: []api.Expr{one}, Then: []api.Stmt{do(api.StDo, one), do(api.StDo, one)}, Else: []api.Stmt{a}})
	isStmt(t, "(while 1)", do(api.StWhile, one))
	isStmt(t, "(while 1 (say 'a'))", api.Stmt{Kind: api.StWhile, Args: []api.Expr{one}, Then: []api.Stmt{a}})
	isStmt(t, "(while 1 (do 1) (while 1 (say 'a')) (say 'a'))", api.Stmt{Kind: api.StWhile, Args: []api.Expr{one},
		Then: []api.Stmt{do(api.StDo, one), {Kind: api.StWhile, Args: []api.Expr{one}, Then: []api.Stmt{a}}, a}})
}

func TestC1StatementsWrong(t *testing.T) {
	rows := []struct {
		s    string
		want api.Errno
	}{
		{"()", api.ErrForm}, {"(())", api.ErrForm}, {"('say' 1)", api.ErrForm}, {"((say 1))", api.ErrForm}, {"(say 1) x", api.ErrForm},
		{"(zap 1)", api.ErrKind}, {"(zap)", api.ErrKind}, {"(f)", api.ErrKind}, {"(Say 1)", api.ErrKind}, {"(5)", api.ErrKind}, {"(+ 1 2)", api.ErrKind},
		{"(go 'b')", api.ErrKind}, {"(here)", api.ErrKind}, {"(cell 1 2)", api.ErrKind}, {"(say1)", api.ErrKind}, {"(say, 1)", api.ErrKind}, {"(zap ''')", api.ErrKind},
		{"(let)", api.ErrForm}, {"(let x)", api.ErrForm}, {"(let 'x' 1)", api.ErrForm}, {"(let (x) 1)", api.ErrForm}, {"(let x 1 2)", api.ErrForm}, {"(let x y z)", api.ErrForm},
		{"(let go 1)", api.ErrName}, {"(let 5 1)", api.ErrName}, {"(let X 1)", api.ErrName}, {"(let abcdefghi 1)", api.ErrName}, {"(set while 1)", api.ErrName}, {"(set -1 1)", api.ErrName},
		{"(set)", api.ErrForm}, {"(set x)", api.ErrForm}, {"(set x 1 2)", api.ErrForm},
		{"(say)", api.ErrForm}, {"(say )", api.ErrForm}, {"(say 1 2)", api.ErrForm}, {"(say 1 'a')", api.ErrForm}, {"(say 1 (f))", api.ErrForm},
		{"(return)", api.ErrForm}, {"(return 1 2)", api.ErrForm}, {"(do)", api.ErrForm}, {"(do 1 2)", api.ErrForm},
		{"(putl)", api.ErrForm}, {"(putl 1)", api.ErrForm}, {"(putl 1 2 3)", api.ErrForm}, {"(putr)", api.ErrForm}, {"(putr 1)", api.ErrForm}, {"(putr 1 2 3)", api.ErrForm},
		{"(if)", api.ErrForm}, {"(if 1)", api.ErrForm}, {"(if 1 ())", api.ErrForm}, {"(if 1 () () ())", api.ErrForm}, {"(if 1 () () 1)", api.ErrForm},
		{"(if 1 (say 1) ())", api.ErrForm}, {"(if 1 () (say 1))", api.ErrForm}, {"(if 1 1 ())", api.ErrForm}, {"(if 1 'a' ())", api.ErrForm}, {"(if 1 ('a') ())", api.ErrForm}, {"(if () () ())", api.ErrForm},
		{"(if 1 ((zap)) ())", api.ErrKind}, {"(if 1 () ((zap)))", api.ErrKind}, {"(if X () ())", api.ErrName},
		{"(while)", api.ErrForm}, {"(while 1 2)", api.ErrForm}, {"(while 1 ())", api.ErrForm}, {"(while 1 ((say 1)))", api.ErrForm}, {"(while 1 'a')", api.ErrForm},
		{"(while 1 (zap))", api.ErrKind}, {"(while go)", api.ErrName},
		// what is wrong first counts
		{"(zap X) (say Y)", api.ErrKind}, {"(let X (zap", api.ErrName}, {"(say X 1)", api.ErrName}, {"(say 1 X)", api.ErrForm}, {"(if 1 (say X", api.ErrForm}, {"(putl 1 X) (zap)", api.ErrName},
	}
	for _, r := range rows {
		isStmtWrong(t, r.s, r.want)
	}
}

func TestC2Texts(t *testing.T) {
	for _, s := range []string{"", " ", "a", "a b", "(", ")", "())(", "twelve bytes", "~!\"#$%&", "5", "let", "  "} {
		isExpr(t, "'"+s+"'", txt(s))
	}
	for _, s := range []string{"'thirteen byte'", "'a\nb'", "'\n'", "'a\tb'", "'\x7f'", "'\x00'", "'\xff'", "'é'", "'it''s'", "'a'b", "'a'1"} {
		isExprWrong(t, s, api.ErrForm)
	}
	isExprWrong(t, "'a", api.ErrEnd)
	isExprWrong(t, "'", api.ErrEnd)
	isExprWrong(t, "(f 'a' '", api.ErrEnd)
	isExprWrong(t, "'a\nb", api.ErrEnd)
	isExprWrong(t, "'it's'", api.ErrForm)
	isExprWrong(t, "x 'a", api.ErrForm)
}

func TestC2Numbers(t *testing.T) {
	rows := []struct {
		s string
		n int
	}{
		{"0", 0}, {"1", 1}, {"9", 9}, {"10", 10}, {"100", 100}, {"-1", -1}, {"-5", -5}, {"-10", -10}, {"1073741823", 1073741823},
		{"1073741824", api.MaxInt}, {"-1073741824", -api.MaxInt},
		// the only 0 of a number is none that it could do without
		{"-0", 0},
	}
	for _, r := range rows {
		isExpr(t, r.s, num(r.n))
	}
	for _, s := range []string{"1073741825", "-1073741825", "2147483648", "4294967296", "9223372036854775807", "9223372036854775808", "-9223372036854775808", "-9223372036854775809", "18446744073709551616", "1" + strings.Repeat("0", 400), "-" + strings.Repeat("9", 400)} {
		isExprWrong(t, s, api.ErrRange)
	}
	for _, s := range []string{"05", "00", "-05", "-00", "01073741825", "+5", "+0", "+", "-", "--5", "-+5", "+-5", "5-", "1.0", "1:", "1/2", "1e3", "0x10", "1_000", "1a", "a1", "5,", "٣", "0" + strings.Repeat("9", 400), "+" + strings.Repeat("9", 400)} {
		isExprWrong(t, s, api.ErrName)
	}
}

func TestC2Names(t *testing.T) {
	for _, s := range []string{"a", "x", "abcdefgh", "lets"} {
		isExpr(t, s, named(s))
		isExpr(t, "("+s+")", call(s))
	}
	for _, s := range append([]string{"A", "x1", "abcdefghi", "*", "<", "=", "x,y", "[x]", "{", "\"a\"", "\x00", "\xff"}, taken...) {
		isExprWrong(t, s, api.ErrName)
	}
	for _, s := range append([]string{"5", "-5", "05", "99999999999", "F", "abcdefghi", "++", "<=", "==", "/", ">"}, taken[:9]...) {
		isExprWrong(t, "("+s+" 1)", api.ErrName)
		isExprWrong(t, "("+s+")", api.ErrName)
	}
}

func TestC2Formed(t *testing.T) {
	a, b := num(1), txt("b")
	isExpr(t, "(+ 1 'b')", two(api.TwoAdd, a, b))
	isExpr(t, "(- 1 'b')", two(api.TwoSub, a, b))
	isExpr(t, "(* 1 'b')", two(api.TwoMul, a, b))
	isExpr(t, "(< 1 'b')", two(api.TwoLess, a, b))
	isExpr(t, "(= 1 'b')", two(api.TwoSame, a, b))
	isExpr(t, "(cell 1 'b')", of(api.ExCell, a, b))
	isExpr(t, "(left 1)", of(api.ExLeft, a))
	isExpr(t, "(right 1)", of(api.ExRight, a))
	isExpr(t, "(ask 'b')", of(api.ExAsk, b))
	isExpr(t, "(here)", of(api.ExHere))
	isExpr(t, "(go 'b')", of(api.ExGo, b))
	isExpr(t, "(f)", call("f"))
	isExpr(t, "(main 1 'b' x (f))", call("main", a, b, named("x"), call("f")))
	isExpr(t, "(+ (- -1 2) (cell (here) (g (left x))))", two(api.TwoAdd, two(api.TwoSub, num(-1), num(2)), of(api.ExCell, of(api.ExHere), call("g", of(api.ExLeft, named("x"))))))
	for _, s := range []string{"()", "(())", "('f')", "((f))", "( 'a' 1)", "1 2", "(f) 1", "(f) (f)"} {
		isExprWrong(t, s, api.ErrForm)
	}
}

func TestC2Many(t *testing.T) {
	counts := map[string]int{"+": 2, "-": 2, "*": 2, "<": 2, "=": 2, "cell": 2, "left": 1, "right": 1, "ask": 1, "go": 1, "here": 0}
	for w, count := range counts {
		for n := range 7 {
			s := "(" + w + strings.Repeat(" 1", n) + ")"
			if n != count {
				isExprWrong(t, s, api.ErrMany)
			} else if _, err := Parse("(main () (say " + s + "))"); err != api.OK {
				t.Errorf("%s: %d comes", s, err)
			}
		}
	}
	isExpr(t, "(f 1 2 3 4)", call("f", num(1), num(2), num(3), num(4)))
	isExprWrong(t, "(f 1 2 3 4 5)", api.ErrMany)
	isExprWrong(t, "(f 1 2 3 4 5 6)", api.ErrMany)
	// it is told behind ), ahead of all that follows
	isExprWrong(t, "(f 1 2 3 4 5 X)", api.ErrName)
	isExprWrong(t, "(+ 1 2 3 99999999999)", api.ErrRange)
	isExprWrong(t, "(left 1 'thirteen byte')", api.ErrForm)
	isExprWrong(t, "(here (+ 1 X))", api.ErrName)
	isExprWrong(t, "(here (+ 1) X)", api.ErrMany)
	isExprWrong(t, "(+ 1) X", api.ErrMany)
	isWrong(t, "(main () (say (+ 1", api.ErrEnd)
	isWrong(t, "(main () (say (f 1 2 3 4 5", api.ErrEnd)
	isWrong(t, "(main () (say (+ 1)", api.ErrMany)
}

func TestC2Deep(t *testing.T) {
	expr := func(times int, s string) string { return "(main () (say " + within("(left ", times, s) + "))" }
	stmt := func(times int, s string) string { return "(main () " + within("(while 1 ", times, s) + ")" }
	for _, s := range []string{"1", "x", "'a'", "(f)", "(here)"} {
		if _, err := Parse(expr(9, s)); err != api.OK {
			t.Errorf("%s in nine: %d comes", s, err)
		}
		isWrong(t, expr(10, s), api.ErrDeep)
		isWrong(t, expr(200, s), api.ErrDeep)
	}
	if _, err := Parse(stmt(9, "(say 1)")); err != api.OK {
		t.Errorf("a statement in nine: %d comes", err)
	}
	if _, err := Parse(stmt(10, "")); err != api.OK {
		t.Errorf("ten statements: %d comes", err)
	}
	// ten are around this one, but eleven around its expression
	isWrong(t, stmt(10, "(say 1)"), api.ErrDeep)
	isWrong(t, stmt(11, ""), api.ErrDeep)
	isWrong(t, stmt(100, ""), api.ErrDeep)
	// brackets of blocks, and functions, are no parts
	if _, err := Parse("(main () " + strings.Repeat("(if 1 ((do 1)) (", 9) + strings.Repeat("))", 9) + ")"); err != api.OK {
		t.Errorf("nine ifs: %d comes", err)
	}
	isWrong(t, "(main () "+strings.Repeat("(if 1 () (", 11)+strings.Repeat("))", 11)+")", api.ErrDeep)
	isWrong(t, "(main () "+strings.Repeat("(if 1 (", 11)+strings.Repeat(") ())", 11)+")", api.ErrDeep)
	isParsed(t, strings.Repeat("(main ())", 20), mains(20)...)
	// parts beside one another are not within one another
	isExpr(t, "(f (g) (g) (g) (g))", call("f", call("g"), call("g"), call("g"), call("g")))
}

func TestC2DeepFirst(t *testing.T) {
	rows := []struct {
		s    string
		want api.Errno
	}{
		// a part that is too deep is so where it begins
		{within("(left ", 10, "X"), api.ErrDeep}, {within("(left ", 10, "99999999999"), api.ErrDeep}, {within("(left ", 10, "'a\n'"), api.ErrDeep},
		{within("(left ", 10, "(X"), api.ErrDeep}, {within("(left ", 10, "(+ 1)"), api.ErrDeep}, {within("(left ", 10, "1 2"), api.ErrDeep},
		{within("(left ", 9, "(+ 1 2 3)"), api.ErrDeep},
		// and what stands ahead of it counts
		{within("(left ", 9, "X"), api.ErrName}, {within("(left ", 9, "(X"), api.ErrName}, {"(+ X " + within("(left ", 10, "1") + ")", api.ErrName},
		// where there is nothing, nothing is too deep
		{within("(left ", 9, "(left)"), api.ErrMany}, {within("(left ", 9, "(f)"), api.OK},
	}
	for _, r := range rows {
		if _, err := Parse("(main () (say " + r.s + "))"); err != r.want {
			t.Errorf("%s: %d comes, not %d", r.s, err, r.want)
		}
	}
	ten := "(main () " + strings.Repeat("(if 1 (", 10)
	isWrong(t, ten, api.ErrEnd)
	isWrong(t, ten+"(", api.ErrEnd)
	isWrong(t, ten+"(say", api.ErrEnd)
	isWrong(t, ten+"(say)", api.ErrForm)
	isWrong(t, ten+"(say 1", api.ErrDeep)
	isWrong(t, ten+"(zap 1", api.ErrKind)
	isWrong(t, ten+"(let X 1", api.ErrName)
	isWrong(t, ten+"x", api.ErrForm)
	eleven := "(main () " + strings.Repeat("(while 1 ", 10) + "(while "
	isWrong(t, eleven, api.ErrEnd)
	isWrong(t, eleven+")", api.ErrForm)
	isWrong(t, eleven+"X", api.ErrDeep)
}

func TestC2End(t *testing.T) {
	s := "(main (a b) (let x (f 1 'a b' y)) (if x ((say (+ x 1))) ((do (here)))) (while 1 (putl x 2)))"
	if _, err := Parse(s); err != api.OK {
		t.Fatalf("%s: %d comes", s, err)
	}
	for i := 1; i < len(s); i++ {
		_, err := Parse(s[:i])
		want := api.ErrEnd
		// a word that is cut is another word
		for _, w := range []string{"l", "le", "i", "s", "sa", "d", "w", "wh", "whi", "whil", "p", "pu", "put"} {
			if strings.HasSuffix(s[:i], "("+w) {
				want = api.ErrKind
			}
		}
		if err != want && !strings.HasSuffix(s[:i], "(h") {
			t.Errorf("%q: %d comes, not %d", s[:i], err, want)
		}
	}
}

func TestC2Alone(t *testing.T) {
	// no two lists share room: one may be put more into, and no other one changes
	s := "(f (a b c) (putl (g 1 2 3) (h 4 5 6)) (if 1 ((do 1) (do 2) (do 3)) ((do 4) (do 5) (do 6))))(f (d e) (do 1))"
	want, _ := Parse(s)
	got, err := Parse(s)
	if err != api.OK || !reflect.DeepEqual(got, want) {
		t.Fatalf("%s %d comes, not %s", tell(got), err, tell(want))
	}
	for i := range got {
		_ = append(got[i].Params, "z")
		_ = append(got[i].Body, api.Stmt{Kind: -1})
		for _, st := range got[i].Body {
			_ = append(st.Args, num(-1))
			_ = append(st.Then, api.Stmt{Kind: -1})
			_ = append(st.Else, api.Stmt{Kind: -1})
			for _, x := range st.Args {
				_ = append(x.Args, num(-1))
			}
		}
	}
	if tell(got) != tell(want) {
		t.Errorf("%s is there then, not %s", tell(got), tell(want))
	}
}
