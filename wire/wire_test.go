package wire

import (
	"bytes"
	"math"
	"math/big"
	"math/rand"
	"slices"
	"strings"
	"testing"

	"wanderstaff/api"
)

func sameBytes(t *testing.T, what string, got, want []byte) {
	t.Helper()
	if !bytes.Equal(got, want) {
		t.Errorf("%s: % x comes, not % x", what, got, want)
	}
}

func isNum(t *testing.T, b []byte, n, size int, err api.Errno) {
	t.Helper()
	gotN, gotSize, gotErr := GetNum(b)
	if gotN != n || gotSize != size || gotErr != err {
		t.Errorf("GetNum(% x): %d %d %d comes, not %d %d %d", b, gotN, gotSize, gotErr, n, size, err)
	}
}

func isText(t *testing.T, b []byte, most int, s string, size int, err api.Errno) {
	t.Helper()
	gotS, gotSize, gotErr := GetText(b, most)
	if gotS != s || gotSize != size || gotErr != err {
		t.Errorf("GetText(% x, %d): %q %d %d comes, not %q %d %d", b, most, gotS, gotSize, gotErr, s, size, err)
	}
}

// nines is nine bytes that others follow, and those.
func nines(x byte, behind ...byte) []byte {
	return append(bytes.Repeat([]byte{x}, 9), behind...)
}

// slowNum is n as bytes by the chapter's words, with numbers that have no end.
func slowNum(n int) []byte {
	twice := new(big.Int).Mul(big.NewInt(int64(n)), big.NewInt(2))
	if n < 0 {
		twice.Neg(twice)
		twice.Sub(twice, big.NewInt(1))
	}
	var out []byte
	low := new(big.Int)
	for {
		twice.DivMod(twice, big.NewInt(128), low)
		if twice.Sign() == 0 {
			return append(out, byte(low.Int64()))
		}
		out = append(out, byte(low.Int64()+128))
	}
}

// someNumbers has both sides of every power of two, below 0 too, and some between.
func someNumbers() []int {
	l := []int{math.MaxInt, math.MaxInt - 1, math.MinInt, math.MinInt + 1}
	r := rand.New(rand.NewSource(2))
	for i := range 63 {
		for d := -2; d <= 2; d++ {
			l = append(l, 1<<i+d, -(1<<i + d))
		}
		l = append(l, r.Int()>>i, -(r.Int() >> i))
	}
	return l
}

func TestB1Num(t *testing.T) {
	rows := []struct {
		n    int
		want []byte
	}{
		{0, []byte{0}}, {-1, []byte{1}}, {1, []byte{2}}, {-2, []byte{3}}, {2, []byte{4}},
		{63, []byte{0x7e}}, {-64, []byte{0x7f}}, {64, []byte{0x80, 1}}, {-65, []byte{0x81, 1}},
		{150, []byte{0xac, 2}}, {8191, []byte{0xfe, 0x7f}}, {-8192, []byte{0xff, 0x7f}}, {8192, []byte{0x80, 0x80, 1}},
		{math.MaxInt, append([]byte{0xfe}, nines(0xff, 1)[1:]...)}, {math.MinInt, nines(0xff, 1)},
	}
	for _, r := range rows {
		sameBytes(t, "Num", Num(nil, r.n), r.want)
		isNum(t, r.want, r.n, len(r.want), api.OK)
	}
}

func TestB1NumThereAndBack(t *testing.T) {
	for _, n := range someNumbers() {
		b := Num([]byte{}, n)
		sameBytes(t, "Num", b, slowNum(n))
		isNum(t, b, n, len(b), api.OK)
		isNum(t, append(slices.Clip(b), 0, 0xff), n, len(b), api.OK)
		for i := range b {
			isNum(t, b[:i], 0, 0, api.ErrEnd)
		}
	}
}

func TestB1GetNumWrong(t *testing.T) {
	rows := []struct {
		b    []byte
		want api.Errno
	}{
		{nil, api.ErrEnd}, {[]byte{}, api.ErrEnd}, {[]byte{0x80}, api.ErrEnd}, {[]byte{0xff, 0xff}, api.ErrEnd},
		{nines(0x80), api.ErrEnd}, {nines(0xff), api.ErrEnd},
		{[]byte{0x80, 0}, api.ErrForm}, {[]byte{0x81, 0}, api.ErrForm}, {[]byte{0xff, 0xff, 0, 7}, api.ErrForm},
		{nines(0x80, 0), api.ErrForm}, {nines(0xff, 0), api.ErrForm}, {nines(0xff, 0, 2), api.ErrForm},
		{nines(0xff)[:8], api.ErrEnd}, {append(nines(0xff)[:8:8], 0), api.ErrForm},
		{nines(0xff, 2), api.ErrRange}, {nines(0x80, 0x7f), api.ErrRange},
		// a tenth byte that others follow is above 1, whether they come or not
		{nines(0xff, 0x80), api.ErrRange}, {nines(0x80, 0x81), api.ErrRange},
		{nines(0xff, 0x81, 0), api.ErrRange}, {nines(0x80, 0x80, 0), api.ErrRange}, {nines(0x80, 0xff, 0xff, 1), api.ErrRange},
	}
	for _, r := range rows {
		isNum(t, r.b, 0, 0, r.want)
		isText(t, r.b, math.MaxInt, "", 0, r.want)
	}
}

func TestB1GetNumEdges(t *testing.T) {
	isNum(t, []byte{0}, 0, 1, api.OK)
	isNum(t, []byte{0, 0}, 0, 1, api.OK)
	isNum(t, []byte{0x80, 1, 0}, 64, 2, api.OK)
	isNum(t, []byte{0x80, 0x80, 1}, 8192, 3, api.OK)
	isNum(t, nines(0x80, 1), 1<<62, 10, api.OK)
	isNum(t, nines(0xff, 1, 0), math.MinInt, 10, api.OK)
	isNum(t, append(nines(0xff)[:8:8], 0x7f), -1<<62, 9, api.OK)
	isNum(t, append(nines(0xff)[:8:8], 2), -3<<55, 9, api.OK)
}

// Whatever GetNum takes is what Num puts: there is one way to write a number.
func TestB1OneWayToWrite(t *testing.T) {
	for i := range 1 << 16 {
		for _, b := range [][]byte{{byte(i), byte(i >> 8)}, nines(0x80|byte(i), byte(i>>8)), {0x80, byte(i), byte(i >> 8)}} {
			n, k, err := GetNum(b)
			if err == api.OK && !bytes.Equal(Num(nil, n), b[:k]) {
				t.Errorf("% x is %d, of %d bytes", b, n, k)
			}
			if err != api.OK && (n != 0 || k != 0) {
				t.Errorf("% x: %d and %d come beside an error", b, n, k)
			}
		}
	}
}

func TestB1Text(t *testing.T) {
	sameBytes(t, "Text", Text(nil, ""), []byte{0})
	sameBytes(t, "Text", Text([]byte{9}, "ab"), []byte{9, 4, 'a', 'b'})
	sameBytes(t, "Text", Text([]byte{}, "\x00\xff'"), []byte{6, 0, 0xff, '\''})
	sameBytes(t, "Text", Text(nil, "é"), []byte{4, 0xc3, 0xa9})
	for _, n := range []int{0, 1, 63, 64, 65, 300, 8191, 8192, 70000} {
		s := strings.Repeat("xyz", n)[:n]
		b := Text(nil, s)
		sameBytes(t, "Text", b, append(slowNum(n), s...))
		isText(t, b, n, s, len(b), api.OK)
		isText(t, append(b, 'q'), n+1, s, len(b), api.OK)
		isText(t, b, math.MaxInt, s, len(b), api.OK)
		isText(t, b, n-1, "", 0, api.ErrMuch)
		isText(t, b[:len(b)-1], n, "", 0, api.ErrEnd)
	}
}

func TestB1GetTextWrong(t *testing.T) {
	rows := []struct {
		b    []byte
		most int
		want api.Errno
	}{
		{nil, 0, api.ErrEnd}, {nil, -1, api.ErrEnd}, {[]byte{0x80}, -1, api.ErrEnd},
		{[]byte{0x80, 0}, 0, api.ErrForm}, {nines(0xff, 2), 0, api.ErrRange},
		{[]byte{1}, 5, api.ErrMuch}, {[]byte{3, 'a'}, math.MaxInt, api.ErrMuch}, {nines(0xff, 1), math.MaxInt, api.ErrMuch},
		{[]byte{0}, -1, api.ErrMuch}, {[]byte{0}, math.MinInt, api.ErrMuch}, {[]byte{4, 'a', 'b'}, 1, api.ErrMuch},
		// too much, and too few behind: too much is told first
		{[]byte{6, 'a'}, 2, api.ErrMuch}, {[]byte{6}, 2, api.ErrMuch},
		{[]byte{4, 'a'}, 2, api.ErrEnd}, {[]byte{2}, 2, api.ErrEnd},
		{Num(nil, math.MaxInt), math.MaxInt, api.ErrEnd}, {append(Num(nil, math.MaxInt), 'a'), math.MaxInt, api.ErrEnd},
		{Num(nil, math.MaxInt), math.MaxInt - 1, api.ErrMuch},
	}
	for _, r := range rows {
		isText(t, r.b, r.most, "", 0, r.want)
	}
	isText(t, []byte{0}, 0, "", 1, api.OK)
	isText(t, []byte{0, 'a'}, 0, "", 1, api.OK)
	isText(t, []byte{4, 'A', 'B', 'C'}, 2, "AB", 3, api.OK)
}

// slowSum turns bits, moves them round, and multiplies with numbers that are wide enough.
func slowSum(b []byte) int {
	sum := 2166136261
	for _, x := range b {
		sum ^= int(x)
		sum = sum*32%(1<<32) + sum/(1<<27)
		sum = sum * 16777619 % (1 << 32)
	}
	return sum
}

func TestB1Sum(t *testing.T) {
	rows := []struct {
		s    string
		want int
	}{{"", 2166136261}, {"a", 2441428656}, {"ab", 3929845526}, {strings.Repeat("x", 300), 1384073510}}
	for _, r := range rows {
		if got := Sum([]byte(r.s)); got != r.want {
			t.Errorf("Sum(%q): %d comes, not %d", r.s, got, r.want)
		}
	}
	r := rand.New(rand.NewSource(3))
	for range 2000 {
		b := make([]byte, r.Intn(40))
		r.Read(b)
		if got, want := Sum(b), slowSum(b); got != want || got < 0 || got >= 1<<32 {
			t.Errorf("Sum(% x): %d comes, not %d", b, got, want)
		}
	}
	for i := range 256 {
		if got, want := Sum([]byte{byte(i)}), slowSum([]byte{byte(i)}); got != want {
			t.Errorf("Sum of %d: %d comes, not %d", i, got, want)
		}
	}
	if Sum(nil) != Sum([]byte{}) || Sum([]byte{0}) == Sum(nil) || Sum([]byte{1, 2}) == Sum([]byte{2, 1}) {
		t.Error("Sum: nil is an empty list; a nought and the order count")
	}
}

// What stands in b stays, and b's spare room is not looked at; what is got is no part of b.
func TestB1Memory(t *testing.T) {
	room := []byte{1, 2, 0xee, 0xee, 0xee, 0xee}
	sameBytes(t, "Num", Num(room[:2], 150), []byte{1, 2, 0xac, 2})
	sameBytes(t, "Text", Text(room[:2], "abc"), []byte{1, 2, 6, 'a', 'b', 'c'})
	sameBytes(t, "what was handed in", room[:2], []byte{1, 2})
	full := []byte{1, 2}
	sameBytes(t, "Num", Num(full[:2:2], 0), []byte{1, 2, 0})
	isNum(t, []byte{0x80, 1}[:1], 0, 0, api.ErrEnd)
	isText(t, []byte{4, 'a', 'b'}[:2], 2, "", 0, api.ErrEnd)
	b := []byte{4, 'a', 'b'}
	s, _, _ := GetText(b, 2)
	b[1] = 'z'
	if s != "ab" {
		t.Errorf("what was got is %q now", s)
	}
}
