// Package cell has values, and cells of values: see doc/01-cell.md.
package cell

import (
	"strconv"

	"wanderstaff/api"
)

// Int is the number n, brought within -MaxInt to MaxInt.
func Int(n int) api.Value {
	return api.Value{Kind: api.ValInt, N: n % (api.MaxInt + 1)}
}

// Text is the text s, cut to MaxBytes bytes.
func Text(s string) api.Value {
	if len(s) > api.MaxBytes {
		s = s[:api.MaxBytes]
	}
	return api.Value{Kind: api.ValText, Text: s}
}

// Wrong tells what is wrong with v, where there are so many cells.
func Wrong(v api.Value, cells int) api.Errno {
	switch v.Kind {
	case api.ValInt:
		if v.N < -api.MaxInt || v.N > api.MaxInt {
			return api.ErrRange
		}
	case api.ValText:
		if len(v.Text) > api.MaxBytes {
			return api.ErrMuch
		}
	case api.ValCell:
		if !within(v.N, cells) {
			return api.ErrNone
		}
	default:
		return api.ErrKind
	}
	if hasStray(v) {
		return api.ErrForm
	}
	return api.OK
}

// hasStray tells whether v, of a kind that there is, has something in a field that its kind has not.
func hasStray(v api.Value) bool {
	if v.Kind == api.ValText {
		return v.N != 0
	}
	return v.Text != ""
}

func within(n, count int) bool { return n >= 0 && n < count }

// Two is operation op of a and b, which are right values.
func Two(op int, a, b api.Value) (api.Value, api.Errno) {
	if op < api.TwoAdd || op > api.TwoSame {
		return api.Value{}, api.ErrKind
	}
	if op == api.TwoSame {
		return truth(a == b), api.OK
	}
	if a.Kind == api.ValText && b.Kind == api.ValText {
		return twoTexts(op, a.Text, b.Text)
	}
	if a.Kind != api.ValInt || b.Kind != api.ValInt {
		return api.Value{}, api.ErrType
	}
	return twoNumbers(op, a.N, b.N), api.OK
}

func twoTexts(op int, a, b string) (api.Value, api.Errno) {
	switch op {
	case api.TwoAdd:
		return Text(a + b), api.OK
	case api.TwoLess:
		return truth(a < b), api.OK
	}
	return api.Value{}, api.ErrType
}

// twoNumbers needs no look at overflow: the product of two right numbers has at most 61 bits.
func twoNumbers(op, a, b int) api.Value {
	switch op {
	case api.TwoAdd:
		return Int(a + b)
	case api.TwoSub:
		return Int(a - b)
	case api.TwoMul:
		return Int(a * b)
	}
	return truth(a < b)
}

func truth(is bool) api.Value {
	if is {
		return Int(1)
	}
	return Int(0)
}

// Show is v as a text, with cells of h within one another down to deep. A value of no kind is nothing.
func Show(h []api.Cell, v api.Value, deep int) string {
	var out []byte
	var put func(v api.Value, deep int)
	put = func(v api.Value, deep int) {
		switch v.Kind {
		case api.ValInt:
			out = append(out, strconv.Itoa(v.N)...)
		case api.ValText:
			out = append(out, v.Text...)
		case api.ValCell:
			if deep <= 0 || !within(v.N, len(h)) {
				out = append(out, ".."...)
				return
			}
			out = append(out, '(')
			put(h[v.N].Left, deep-1)
			out = append(out, ' ')
			put(h[v.N].Right, deep-1)
			out = append(out, ')')
		}
	}
	put(v, deep)
	return string(out)
}

// Canon is l, and those cells of h that l leads to, numbered as they are come to first.
func Canon(h []api.Cell, l []api.Value) ([]api.Value, []api.Cell) {
	var cells []api.Cell
	numbers := map[int]int{} // a cell's number in h: its number in cells
	come := func(v api.Value) api.Value {
		if v.Kind != api.ValCell || !within(v.N, len(h)) {
			return v
		}
		n, known := numbers[v.N]
		if !known {
			n = len(cells)
			numbers[v.N] = n
			cells = append(cells, h[v.N])
		}
		v.N = n
		return v
	}
	values := make([]api.Value, 0, len(l))
	looked := 0
	for _, v := range l {
		values = append(values, come(v))
		for ; looked < len(cells); looked++ {
			// come may move cells elsewhere, so nothing is stored there until both have answered.
			left := come(cells[looked].Left)
			right := come(cells[looked].Right)
			cells[looked] = api.Cell{Left: left, Right: right}
		}
	}
	return values, cells
}
