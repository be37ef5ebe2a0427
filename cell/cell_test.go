package cell

import (
	"math"
	"reflect"
	"strings"
	"testing"

	"wanderstaff/api"
)

func num(n int) api.Value          { return api.Value{Kind: api.ValInt, N: n} }
func txt(s string) api.Value       { return api.Value{Kind: api.ValText, Text: s} }
func ref(n int) api.Value          { return api.Value{Kind: api.ValCell, N: n} }
func pair(l, r api.Value) api.Cell { return api.Cell{Left: l, Right: r} }

func same[T any](t *testing.T, what string, got, want T) {
	t.Helper()
	if !reflect.DeepEqual(got, want) {
		t.Errorf("%s: %+v comes, not %+v", what, got, want)
	}
}

// sameList takes nil and a list without entries for the same.
func sameList[T any](t *testing.T, what string, got, want []T) {
	t.Helper()
	if len(got) > 0 || len(want) > 0 {
		same(t, what, got, want)
	}
}

func TestA1Int(t *testing.T) {
	rows := []struct{ n, want int }{
		{0, 0}, {7, 7}, {-7, -7},
		{api.MaxInt - 1, api.MaxInt - 1}, {api.MaxInt, api.MaxInt},
		{api.MaxInt + 1, 0}, {api.MaxInt + 2, 1}, {2*api.MaxInt + 1, api.MaxInt},
		{-api.MaxInt, -api.MaxInt}, {-api.MaxInt - 1, 0}, {-api.MaxInt - 2, -1},
		{math.MaxInt64, 7}, {math.MinInt64, -8},
	}
	for _, r := range rows {
		same(t, "Int", Int(r.n), num(r.want))
	}
}

func TestA1Text(t *testing.T) {
	long := strings.Repeat("abc", 30)
	rows := []struct{ s, want string }{
		{"", ""}, {"abc", "abc"}, {"a b'\n\x00\xff", "a b'\n\x00\xff"},
		{long[:59], long[:59]}, {long[:60], long[:60]}, {long[:61], long[:60]}, {long, long[:60]},
		// a letter of two bytes is cut through: bytes count
		{long[:59] + "é", long[:59] + "\xc3"},
	}
	for _, r := range rows {
		same(t, "Text", Text(r.s), txt(r.want))
	}
}

func TestA1Wrong(t *testing.T) {
	full, much := strings.Repeat("x", 60), strings.Repeat("x", 61)
	rows := []struct {
		v     api.Value
		cells int
		want  api.Errno
	}{
		{num(0), 0, api.OK}, {num(-5), -1, api.OK}, {num(api.MaxInt), 0, api.OK}, {num(-api.MaxInt), 0, api.OK},
		{num(api.MaxInt + 1), 0, api.ErrRange}, {num(-api.MaxInt - 1), 0, api.ErrRange},
		{num(math.MaxInt), 0, api.ErrRange}, {num(math.MinInt), 0, api.ErrRange},
		{txt(""), 0, api.OK}, {txt("a'\n\xff"), 0, api.OK}, {txt(full), 0, api.OK}, {txt(much), 9, api.ErrMuch},
		{ref(0), 1, api.OK}, {ref(4), 5, api.OK}, {ref(5), 5, api.ErrNone}, {ref(0), 0, api.ErrNone},
		{ref(-1), 5, api.ErrNone}, {ref(0), -1, api.ErrNone}, {ref(-1), -1, api.ErrNone}, {ref(-2), -1, api.ErrNone},
		{ref(math.MaxInt), 5, api.ErrNone}, {ref(math.MinInt), 5, api.ErrNone},
		{api.Value{Kind: 3}, 9, api.ErrKind}, {api.Value{Kind: -1}, 9, api.ErrKind}, {api.Value{Kind: math.MinInt}, 9, api.ErrKind},
		{api.Value{Kind: api.ValInt, Text: "a"}, 0, api.ErrForm},
		{api.Value{Kind: api.ValText, N: 1}, 9, api.ErrForm}, {api.Value{Kind: api.ValText, N: -1, Text: "a"}, 9, api.ErrForm},
		{api.Value{Kind: api.ValCell, Text: "a"}, 1, api.ErrForm},
		// a number may have no text, however long it is: ErrMuch is of texts, ErrRange of numbers alone
		{api.Value{Kind: api.ValInt, Text: much}, 0, api.ErrForm},
		{api.Value{Kind: api.ValCell, Text: much}, 1, api.ErrForm},
		{api.Value{Kind: api.ValText, N: math.MaxInt}, 0, api.ErrForm},
		{ref(api.MaxInt + 1), api.MaxInt + 2, api.OK},
		// several fit: the first one is told
		{api.Value{Kind: 3, N: math.MaxInt, Text: much}, 0, api.ErrKind},
		{api.Value{Kind: api.ValInt, N: math.MaxInt, Text: much}, 0, api.ErrRange},
		{api.Value{Kind: api.ValText, N: 1, Text: much}, 0, api.ErrMuch},
		{api.Value{Kind: api.ValCell, N: 7, Text: much}, 7, api.ErrNone},
	}
	for i, r := range rows {
		if got := Wrong(r.v, r.cells); got != r.want {
			t.Errorf("row %d: Wrong(%+v, %d): %d comes, not %d", i, r.v, r.cells, got, r.want)
		}
	}
}

func TestA1TwoNumbers(t *testing.T) {
	const top = api.MaxInt
	rows := []struct{ op, a, b, want int }{
		{api.TwoAdd, 3, 4, 7}, {api.TwoAdd, -3, 1, -2}, {api.TwoAdd, top, 1, 0}, {api.TwoAdd, top, top, top - 1}, {api.TwoAdd, -top, -1, 0},
		{api.TwoSub, 3, 4, -1}, {api.TwoSub, 4, 3, 1}, {api.TwoSub, -top, 1, 0}, {api.TwoSub, -top, top, 1 - top}, {api.TwoSub, top, -2, 1},
		{api.TwoMul, 3, -4, -12}, {api.TwoMul, top, 0, 0}, {api.TwoMul, top, 2, top - 1}, {api.TwoMul, top, top, 1}, {api.TwoMul, top, -top, -1},
		{api.TwoLess, 3, 4, 1}, {api.TwoLess, 4, 3, 0}, {api.TwoLess, 3, 3, 0}, {api.TwoLess, -4, 3, 1}, {api.TwoLess, -top, top, 1},
		{api.TwoSame, 3, 3, 1}, {api.TwoSame, 3, -3, 0}, {api.TwoSame, top, top, 1},
	}
	for _, r := range rows {
		isTwo(t, r.op, num(r.a), num(r.b), num(r.want), api.OK)
	}
}

func TestA1TwoTexts(t *testing.T) {
	x, y := strings.Repeat("x", 60), strings.Repeat("y", 60)
	rows := []struct {
		op   int
		a, b string
		want api.Value
	}{
		{api.TwoAdd, "ab", "cd", txt("abcd")}, {api.TwoAdd, "", "", txt("")}, {api.TwoAdd, "", "a", txt("a")},
		{api.TwoAdd, x[:59], y, txt(x[:59] + "y")}, {api.TwoAdd, x, y, txt(x)}, {api.TwoAdd, x[:30], y[:30], txt(x[:30] + y[:30])},
		{api.TwoLess, "ab", "b", num(1)}, {api.TwoLess, "b", "ab", num(0)}, {api.TwoLess, "a", "a", num(0)},
		{api.TwoLess, "", "a", num(1)}, {api.TwoLess, "a", "ab", num(1)}, {api.TwoLess, "Z", "a", num(1)},
		// byte by byte, not letter by letter, and without a sign
		{api.TwoLess, "\x7f", "\x80", num(1)}, {api.TwoLess, "\xff", "a", num(0)}, {api.TwoLess, "10", "9", num(1)},
		{api.TwoSame, "ab", "ab", num(1)}, {api.TwoSame, "ab", "abc", num(0)}, {api.TwoSame, "", "", num(1)},
	}
	for _, r := range rows {
		isTwo(t, r.op, txt(r.a), txt(r.b), r.want, api.OK)
	}
	isTwo(t, api.TwoSub, txt("a"), txt("a"), api.Value{}, api.ErrType)
	isTwo(t, api.TwoMul, txt("a"), txt("a"), api.Value{}, api.ErrType)
}

func TestA1TwoOfOtherKinds(t *testing.T) {
	rows := [][2]api.Value{
		{num(1), txt("1")}, {txt("1"), num(1)}, {num(0), txt("")}, {num(0), ref(0)}, {ref(0), num(0)},
		{txt(""), ref(0)}, {ref(0), txt("")}, {ref(0), ref(1)},
	}
	for _, r := range rows {
		for _, op := range []int{api.TwoAdd, api.TwoSub, api.TwoMul, api.TwoLess} {
			isTwo(t, op, r[0], r[1], api.Value{}, api.ErrType)
		}
		isTwo(t, api.TwoSame, r[0], r[1], num(0), api.OK)
	}
	isTwo(t, api.TwoSame, ref(1), ref(1), num(1), api.OK)
	isTwo(t, api.TwoLess, ref(0), ref(0), api.Value{}, api.ErrType)
}

func TestA1TwoOfNoOperation(t *testing.T) {
	for _, op := range []int{0, 6, -1, math.MinInt, math.MaxInt} {
		isTwo(t, op, num(1), num(1), api.Value{}, api.ErrKind)
		isTwo(t, op, txt("a"), txt("a"), api.Value{}, api.ErrKind)
		// ErrType would fit too, and comes later
		isTwo(t, op, num(1), ref(0), api.Value{}, api.ErrKind)
	}
}

func isTwo(t *testing.T, op int, a, b, want api.Value, err api.Errno) {
	t.Helper()
	got, e := Two(op, a, b)
	if got != want || e != err {
		t.Errorf("Two(%d, %+v, %+v): %+v, %d comes, not %+v, %d", op, a, b, got, e, want, err)
	}
}

func TestA2Show(t *testing.T) {
	h := []api.Cell{pair(num(1), ref(1)), pair(txt("q"), ref(0)), pair(ref(0), ref(2)), pair(ref(9), ref(-1)), pair(txt(""), num(-3))}
	rows := []struct {
		v    api.Value
		deep int
		want string
	}{
		{num(0), 4, "0"}, {num(-70), 0, "-70"}, {num(api.MaxInt), -1, "1073741824"}, {num(math.MinInt64), 1, "-9223372036854775808"},
		{txt(""), 4, ""}, {txt("a (b) ..\n'\xff"), 0, "a (b) ..\n'\xff"},
		{txt(strings.Repeat("x", 99)), 4, strings.Repeat("x", 99)},
		{ref(0), 0, ".."}, {ref(0), -1, ".."}, {ref(0), math.MinInt, ".."},
		{ref(0), 1, "(1 ..)"}, {ref(0), 2, "(1 (q ..))"}, {ref(0), 3, "(1 (q (1 ..)))"},
		{ref(2), 1, "(.. ..)"}, {ref(2), 2, "((1 ..) (.. ..))"},
		{ref(2), 3, "((1 (q ..)) ((1 ..) (.. ..)))"},
		{ref(3), 4, "(.. ..)"}, {ref(4), 1, "( -3)"}, {ref(4), math.MaxInt, "( -3)"},
		{ref(5), 4, ".."}, {ref(-1), 4, ".."}, {ref(math.MaxInt), 4, ".."}, {ref(math.MinInt), 4, ".."},
		// a field that a kind has not means nothing
		{api.Value{Kind: api.ValInt, N: 5, Text: "a"}, 4, "5"}, {api.Value{Kind: api.ValText, N: 5, Text: "a"}, 4, "a"},
		{api.Value{Kind: api.ValCell, N: 4, Text: "a"}, 4, "( -3)"},
		{api.Value{Kind: 3, N: 4, Text: "a"}, 4, ""},
	}
	for _, r := range rows {
		if got := Show(h, r.v, r.deep); got != r.want {
			t.Errorf("Show(%+v, %d): %q comes, not %q", r.v, r.deep, got, r.want)
		}
	}
	same(t, "Show without cells", Show(nil, ref(0), 4)+Show([]api.Cell{}, ref(0), 4), "....")
}

func TestA2ShowOfManyCells(t *testing.T) {
	const n = 1 << 16
	var h []api.Cell
	for i := range n {
		h = append(h, pair(num(1), ref(i+1)))
	}
	want := strings.Repeat("(1 ", n) + ".." + strings.Repeat(")", n)
	if Show(h, ref(0), math.MaxInt) != want || Show(h[:1], ref(0), 4) != "(1 ..)" {
		t.Error("a long row of cells is told otherwise")
	}
}

func TestA2Canon(t *testing.T) {
	rows := []struct {
		what   string
		h      []api.Cell
		l      []api.Value
		values []api.Value
		cells  []api.Cell
	}{
		{"nothing", nil, nil, nil, nil},
		{"nothing is named", []api.Cell{pair(num(9), num(9))}, []api.Value{num(0), txt("a")}, []api.Value{num(0), txt("a")}, nil},
		{"one that nobody names is gone", []api.Cell{pair(num(9), num(9)), pair(num(1), txt("a"))}, []api.Value{ref(1)},
			[]api.Value{ref(0)}, []api.Cell{pair(num(1), txt("a"))}},
		{"named by one that is gone", []api.Cell{{}, pair(ref(2), ref(1)), pair(num(1), num(2))}, []api.Value{ref(0)},
			[]api.Value{ref(0)}, []api.Cell{{}}},
		{"numbers are no cells", []api.Cell{pair(num(1), num(2)), pair(num(0), num(1))}, []api.Value{num(1), ref(1), num(0)},
			[]api.Value{num(1), ref(0), num(0)}, []api.Cell{pair(num(0), num(1))}},
		{"twice the same", []api.Cell{{}, pair(num(1), num(1))}, []api.Value{ref(1), ref(0), ref(1)},
			[]api.Value{ref(0), ref(1), ref(0)}, []api.Cell{pair(num(1), num(1)), {}}},
		{"alike, but two", []api.Cell{{}, {}}, []api.Value{ref(1), ref(0)}, []api.Value{ref(0), ref(1)}, []api.Cell{{}, {}}},
		{"within itself", []api.Cell{{}, pair(ref(1), ref(1))}, []api.Value{ref(1)}, []api.Value{ref(0)}, []api.Cell{pair(ref(0), ref(0))}},
		{"the left one first", []api.Cell{pair(num(5), num(5)), pair(num(6), num(6)), pair(ref(1), ref(0))}, []api.Value{ref(2)},
			[]api.Value{ref(0)}, []api.Cell{pair(ref(1), ref(2)), pair(num(6), num(6)), pair(num(5), num(5))}},
		{"what a value leads to is ahead of the next value",
			[]api.Cell{pair(num(5), num(5)), pair(num(6), num(6)), pair(num(7), ref(0))}, []api.Value{ref(2), ref(1)},
			[]api.Value{ref(0), ref(2)}, []api.Cell{pair(num(7), ref(1)), pair(num(5), num(5)), pair(num(6), num(6))}},
		// 0's right one (2) was come to ahead of what its left one (1) leads to (3, 4)
		{"cell by cell", []api.Cell{pair(ref(1), ref(2)), pair(ref(3), ref(4)), pair(ref(5), num(2)), pair(num(3), num(3)), pair(num(4), num(4)), pair(num(5), num(5))},
			[]api.Value{ref(0)}, []api.Value{ref(0)},
			[]api.Cell{pair(ref(1), ref(2)), pair(ref(3), ref(4)), pair(ref(5), num(2)), pair(num(3), num(3)), pair(num(4), num(4)), pair(num(5), num(5))}},
	}
	for _, r := range rows {
		values, cells := Canon(r.h, r.l)
		sameList(t, r.what+": values", values, r.values)
		sameList(t, r.what+": cells", cells, r.cells)
	}
}

// draw answers the same row of numbers each time, so that a fault comes again.
func draw() func(below int) int {
	state := uint32(1)
	return func(below int) int {
		state = state*1664525 + 1013904223
		return int(state>>8) % below
	}
}

func drawValue(next func(int) int, cells int) api.Value {
	switch next(4) {
	case 0:
		return num(next(9) - 4)
	case 1:
		return txt(strings.Repeat("ab", next(3)))
	}
	if cells == 0 {
		return num(0)
	}
	return ref(next(cells))
}

func drawHeap(next func(int) int) ([]api.Cell, []api.Value) {
	h := make([]api.Cell, next(9))
	for i := range h {
		h[i] = pair(drawValue(next, len(h)), drawValue(next, len(h)))
	}
	l := make([]api.Value, next(5))
	for i := range l {
		l[i] = drawValue(next, len(h))
	}
	return h, l
}

// moved is h and l with each cell elsewhere.
func moved(h []api.Cell, l []api.Value, next func(int) int) ([]api.Cell, []api.Value) {
	to := make([]int, len(h))
	for i := range to {
		j := next(i + 1)
		to[i], to[j] = to[j], i
	}
	move := func(v api.Value) api.Value {
		if v.Kind == api.ValCell {
			v.N = to[v.N]
		}
		return v
	}
	cells := make([]api.Cell, len(h))
	for i, c := range h {
		cells[to[i]] = pair(move(c.Left), move(c.Right))
	}
	var values []api.Value
	for _, v := range l {
		values = append(values, move(v))
	}
	return cells, values
}

func TestA2CanonIsTheSameSeenFromOutside(t *testing.T) {
	next := draw()
	for range 2000 {
		h, l := drawHeap(next)
		values, cells := Canon(h, l)
		for i, v := range l {
			same(t, "Show", Show(cells, values[i], 5), Show(h, v, 5))
			same(t, "Wrong", Wrong(values[i], len(cells)), api.OK)
		}
		again, cellsAgain := Canon(cells, values)
		sameList(t, "Canon of Canon: values", again, values)
		sameList(t, "Canon of Canon: cells", cellsAgain, cells)
		again, cellsAgain = Canon(moved(h, l, next))
		sameList(t, "wherever they stand: values", again, values)
		sameList(t, "wherever they stand: cells", cellsAgain, cells)
		if t.Failed() {
			t.Fatalf("of %+v, %+v", h, l)
		}
	}
}

func TestA2CanonOnlyReads(t *testing.T) {
	h := []api.Cell{pair(num(1), ref(1)), pair(txt("q"), ref(0)), pair(num(8), num(8))}
	l := []api.Value{ref(1), num(2), ref(2)}
	whole, wholeList := append([]api.Cell(nil), h...), append([]api.Value(nil), l...)
	values, cells := Canon(h[:2], l[:2])
	same(t, "h and its spare room", h, whole)
	same(t, "l and its spare room", l, wholeList)
	wantValues, wantCells := append([]api.Value(nil), values...), append([]api.Cell(nil), cells...)
	clear(h)
	clear(l)
	same(t, "values are new", values, wantValues)
	same(t, "cells are new", cells, wantCells)
}

func TestA2CanonOfManyCells(t *testing.T) {
	const n = 1 << 16
	h := make([]api.Cell, n)
	for i := range h {
		h[i] = pair(num(i), ref((i+n-1)%n))
	}
	values, cells := Canon(h, []api.Value{ref(n - 1)})
	if len(values) != 1 || values[0] != ref(0) || len(cells) != n {
		t.Fatal("not as many cells as there were")
	}
	for i, c := range cells {
		if c != pair(num(n-1-i), ref((i+1)%n)) {
			t.Fatalf("cell %d is %+v", i, c)
		}
	}
}

func TestZ1WrongValuesDoNotPanic(t *testing.T) {
	odd := []int{math.MinInt, -1, 0, 1, 2, 3, math.MaxInt}
	var vs []api.Value
	for _, k := range odd {
		for _, n := range odd {
			vs = append(vs, api.Value{Kind: k, N: n}, api.Value{Kind: k, N: n, Text: strings.Repeat("x", 200)})
		}
	}
	var h []api.Cell
	for i := range vs {
		h = append(h, pair(vs[i], vs[len(vs)-1-i]))
	}
	for _, a := range vs {
		Int(a.N)
		Text(a.Text)
		for _, n := range odd {
			Wrong(a, n)
		}
		for deep := -1; deep < 6; deep++ {
			Show(h, a, deep)
		}
		for _, b := range vs {
			for _, op := range append(odd, 4, 5, 6) {
				if v, err := Two(op, a, b); err != api.OK && v != (api.Value{}) {
					t.Errorf("Two(%d, %+v, %+v): %+v beside an error", op, a, b, v)
				}
			}
		}
	}
	Canon(h, vs)
	Canon(nil, vs)
}
