package num

import (
	"math"
	"testing"
)

// Promise 1.1.
func TestMultiples(t *testing.T) {
	for _, x := range [][4]int{ // n, step, Down, Up
		{17, 16, 16, 32}, {16, 16, 16, 16}, {0, 16, 0, 0}, {1, 16, 0, 16}, {5, 1, 5, 5},
		{-1, 16, 0, 0}, {17, 0, 0, 0}, {17, -3, 0, 0}, {math.MinInt, math.MinInt, 0, 0},
		{math.MaxInt, 1, math.MaxInt, math.MaxInt}, {math.MaxInt - 1, math.MaxInt, 0, math.MaxInt},
		{math.MaxInt, 16, math.MaxInt - 15, 0},
	} {
		if d, u := Down(x[0], x[1]), Up(x[0], x[1]); d != x[2] || u != x[3] {
			t.Error(x, d, u)
		}
	}
}

func TestParts(t *testing.T) {
	for _, x := range [][3]int{{17, 16, 2}, {16, 16, 1}, {1, 16, 1}, {0, 16, 0}, {-1, 16, 0}, {5, 0, 0}, {5, -1, 0}, {math.MaxInt, 1, math.MaxInt}, {math.MaxInt, 2, 1 << 62}} {
		if got := Parts(x[0], x[1]); got != x[2] {
			t.Error(x, got)
		}
	}
}

func TestPowers(t *testing.T) {
	for _, x := range []struct {
		n, log int
		power  bool
	}{{1, 0, true}, {2, 1, true}, {9, 3, false}, {8, 3, true}, {7, 2, false}, {0, 0, false}, {-8, 0, false}, {math.MinInt, 0, false}, {math.MaxInt, 62, false}, {1 << 62, 62, true}} {
		if Power(x.n) != x.power || Log(x.n) != x.log {
			t.Error(x, Power(x.n), Log(x.n))
		}
	}
}

func TestClip(t *testing.T) {
	for _, x := range [][4]int{{5, 1, 9, 5}, {0, 1, 9, 1}, {10, 1, 9, 9}, {1, 1, 9, 1}, {9, 1, 9, 9}, {5, 9, 1, 9}, {10, 9, 1, 9}, {0, 9, 1, 9}} {
		if got := Clip(x[0], x[1], x[2]); got != x[3] {
			t.Error(x, got)
		}
	}
}

func TestSum(t *testing.T) {
	for _, x := range []struct {
		most int
		l    []int
		sum  int
		ok   bool
	}{
		{5, []int{2, 3}, 5, true}, {4, []int{2, 3}, 0, false}, {0, nil, 0, true}, {-1, nil, 0, false}, {-1, []int{0}, 0, false},
		{9, []int{3, -1}, 0, false}, {9, []int{10, -1}, 0, false}, {math.MaxInt, []int{math.MaxInt, 1}, 0, false}, {math.MaxInt, []int{math.MaxInt, 0}, math.MaxInt, true},
		{5, []int{math.MinInt}, 0, false},
	} {
		if s, ok := Sum(x.most, x.l...); s != x.sum || ok != x.ok {
			t.Error(x, s, ok)
		}
	}
}

func TestDigits(t *testing.T) {
	for n, s := range map[int]string{0: "0", 7: "7", -120: "-120", 100: "100", math.MinInt: "-9223372036854775808"} {
		if Digits(n) != s {
			t.Error(n, Digits(n))
		}
	}
}

func TestParse(t *testing.T) {
	for _, x := range []struct {
		s    string
		most int
		n    int
		ok   bool
	}{
		{"0", 0, 0, true}, {"262144", 262144, 262144, true}, {"262145", 262144, 0, false}, {"10", 99, 10, true},
		{"999999999999999", math.MaxInt, 999999999999999, true}, {"1000000000000000", math.MaxInt, 0, false}, {"99999999999999999999", math.MaxInt, 0, false},
		{"007", 9, 0, false}, {"00", 9, 0, false}, {"", 9, 0, false}, {"-1", 9, 0, false}, {"+1", 9, 0, false}, {" 1", 9, 0, false}, {"1 ", 9, 0, false}, {"1a", 99, 0, false},
		{"0", -1, 0, false}, {"\u0661", 9, 0, false}, {"\xff", 9, 0, false},
	} {
		if n, ok := Parse(x.s, x.most); n != x.n || ok != x.ok {
			t.Error(x, n, ok)
		}
	}
}
