package shuf

import (
	"cubbyhole/draw"
	"math"
	"slices"
	"testing"
)

// Promise 23.1.
func TestOf(t *testing.T) {
	l := []string{"a", "b", "c", "d"}
	d := draw.New([]int{1, 0, 1, 9})
	// d changes with b; c (place 2) with a; place 1 with itself
	if got := Of(l, d); !slices.Equal(got, []string{"c", "d", "a", "b"}) || d.Left() != 1 {
		t.Error(got, d.Left())
	}
	if !slices.Equal(l, []string{"a", "b", "c", "d"}) {
		t.Error("changed", l)
	}
	if got := Of([]int{7}, d); !slices.Equal(got, []int{7}) || d.Left() != 1 {
		t.Error(got, d.Left())
	}
	if len(Of[int](nil, d)) != 0 || len(Of([]int{}, d)) != 0 || d.Left() != 1 {
		t.Error("of nothing")
	}
	if got := Of([]int{1, 2, 3}, nil); !slices.Equal(got, []int{2, 3, 1}) {
		t.Error("no draws: noughts", got)
	}
}

func TestOrder(t *testing.T) {
	if got := Order(2, draw.New([]int{0})); !slices.Equal(got, []int{1, 0}) {
		t.Error(got)
	}
	if got := Order(2, draw.New([]int{1})); !slices.Equal(got, []int{0, 1}) {
		t.Error(got)
	}
	d := draw.New(nil)
	for n := range 40 {
		got := Order(n, d)
		sorted := slices.Sorted(slices.Values(got))
		for i, x := range sorted {
			if i != x {
				t.Error(got)
			}
		}
		if len(got) != n {
			t.Error(n, got)
		}
	}
	for _, n := range []int{0, -1, math.MinInt} {
		if len(Order(n, d)) != 0 {
			t.Error(n)
		}
	}
}

func TestBack(t *testing.T) {
	if got := Back([]int{2, 0, 1}); !slices.Equal(got, []int{1, 2, 0}) {
		t.Error(got)
	}
	if len(Back(nil)) != 0 || !slices.Equal(Back([]int{0}), []int{0}) {
		t.Error("few")
	}
	for _, l := range [][]int{{1}, {-1}, {0, 0}, {0, 2}, {1, 1, 2}, {0, 1, math.MaxInt}, {0, 1, math.MinInt}} {
		if Back(l) != nil {
			t.Error(l)
		}
	}
	l := Order(30, draw.New(nil))
	for x, place := range Back(l) {
		if l[place] != x {
			t.Error(x, place)
		}
	}
}
