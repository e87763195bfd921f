package draw

import (
	"math"
	"math/big"
	"testing"
)

// rule is the number of k, by numbers of any size.
func rule(k, n int) int {
	x := new(big.Int).Mul(big.NewInt(int64(k)), big.NewInt(2654435761))
	x.Mod(x, new(big.Int).Lsh(big.NewInt(1), 64))
	x.Rsh(x, 7)
	return int(x.Mod(x, big.NewInt(int64(n))).Int64())
}

// Promise 22.1.
func TestList(t *testing.T) {
	l := []int{-1, 5, 3, math.MinInt, math.MaxInt, 7}
	d := New(l)
	l[0], l[1] = 0, 0
	if d.Left() != 6 {
		t.Error(d.Left())
	}
	for i, x := range [][2]int{{3, 2}, {4, 1}, {3, 0}, {5, 2}, {10, 7}} {
		if got := d.Next(x[0]); got != x[1] || d.Left() != 5-i {
			t.Error(x, got, d.Left())
		}
	}
	for _, n := range []int{0, -1, math.MinInt} {
		if d.Next(n) != 0 || d.Left() != 1 {
			t.Error(n, d.Left())
		}
	}
	if d.Next(100) != 7 || d.Left() != 0 {
		t.Error("the last one")
	}
}

func TestRule(t *testing.T) {
	d := New(nil)
	for k := 1; k < 3000; k++ {
		n := k%97 + 1
		if k%3 == 0 {
			n = math.MaxInt
		}
		if d.Next(0) != 0 {
			t.Fatal("none is drawn")
		}
		if got := d.Next(n); got != rule(k, n) {
			t.Fatal(k, n, got)
		}
	}
}

func TestAdd(t *testing.T) {
	d := New([]int{4})
	more := []int{8, 9}
	d.Add(more...)
	more[0] = 0
	d.Add()
	if d.Left() != 3 || d.Next(100) != 4 || d.Next(100) != 8 || d.Next(100) != 9 || d.Next(1000) != rule(1, 1000) {
		t.Error("behind the list")
	}
	d.Add(6)
	if d.Left() != 1 || d.Next(100) != 6 || d.Next(1000) != rule(2, 1000) {
		t.Error("more, behind the rule")
	}
}

func TestNone(t *testing.T) {
	var d *Draws
	d.Add(1)
	if d.Next(5) != 0 || d.Left() != 0 {
		t.Error("of none")
	}
}
