package class

import (
	"math"
	"slices"
	"testing"
)

var sizes = []int{16, 32, 48, 64, 80, 96, 112, 128, 160, 192, 224, 256, 320, 384, 448, 512, 640, 768, 896, 1024}

// Promise 16.1.
func TestSizes(t *testing.T) {
	if !slices.Equal(List(), sizes) {
		t.Error(List())
	}
	for k, n := range sizes {
		if Of(k) != n || Block(k) != n+16 || For(n) != k {
			t.Error(k, Of(k), Block(k), For(n))
		}
	}
	for _, k := range []int{-1, 20, 63, math.MaxInt, math.MinInt} {
		if Of(k) != 0 || Block(k) != 0 || Fit(k, 5) != 0 {
			t.Error(k)
		}
	}
	l := List()
	l[0] = 1
	if Of(0) != 16 || List()[0] != 16 {
		t.Error("not the caller's own")
	}
}

func TestFor(t *testing.T) {
	for n := 1; n <= 1024; n++ {
		k := 0
		for sizes[k] < n {
			k++
		}
		if For(n) != k {
			t.Error(n, For(n))
		}
	}
	for _, n := range []int{0, -1, 1025, math.MaxInt, math.MinInt} {
		if For(n) != -1 {
			t.Error(n)
		}
	}
}

func TestFit(t *testing.T) {
	for _, x := range [][3]int{{0, 5, 40}, {0, 1, 8}, {19, 5, 1}, {19, 4, 0}, {19, 16, 3}, {8, 16, 23}, {0, 1024, 8192}, {0, 1025, 0}, {0, 0, 0}, {0, -1, 0}, {0, math.MaxInt, 0}, {0, math.MinInt, 0}} {
		if got := Fit(x[0], x[1]); got != x[2] {
			t.Error(x, got)
		}
	}
}
