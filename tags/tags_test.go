package tags

import (
	"cubbyhole/api"
	"math"
	"testing"
)

// Promise 6.1.
func TestSetAndGet(t *testing.T) {
	x := New()
	if x.Get(0) != 0 || x.Get(api.Granules-1) != 0 || x.Count() != [16]int{api.Granules} {
		t.Error("new")
	}
	if !x.Set(1, 2, 5) || x.Get(0) != 0 || x.Get(1) != 5 || x.Get(2) != 5 || x.Get(3) != 0 {
		t.Error("1 and 2")
	}
	if !x.Set(2, 1, 15) || !x.Set(api.Granules-1, 1, 15) || x.Get(1) != 5 || x.Get(2) != 15 || x.Get(3) != 0 || x.Get(api.Granules-1) != 15 {
		t.Error("one alone")
	}
	if x.Count() != [16]int{0: api.Granules - 3, 5: 1, 15: 2} {
		t.Error(x.Count())
	}
	if !x.Set(0, api.Granules, 9) || x.Count() != [16]int{9: api.Granules} || !x.All(0, api.Granules, 9) {
		t.Error("all")
	}
}

func TestWrong(t *testing.T) {
	x := New()
	for _, s := range [][3]int{{-1, 1, 1}, {api.Granules, 1, 1}, {api.Granules - 1, 2, 1}, {0, 0, 1}, {0, -1, 1}, {1, math.MaxInt, 1}, {math.MaxInt, 1, 1}, {math.MinInt, math.MinInt, 1}, {0, 1, -1}, {0, 1, 16}, {0, 1, math.MaxInt}, {0, 1, math.MinInt}} {
		if x.Set(s[0], s[1], s[2]) || x.All(s[0], s[1], s[2]) {
			t.Error(s)
		}
	}
	if x.Count() != [16]int{api.Granules} {
		t.Error("changed")
	}
	for _, g := range []int{-1, api.Granules, math.MaxInt, math.MinInt} {
		if x.Get(g) != -1 {
			t.Error(g)
		}
	}
}

func TestAll(t *testing.T) {
	x := New()
	x.Set(3, 4, 7)
	if !x.All(3, 4, 7) || x.All(2, 5, 7) || x.All(3, 5, 7) || x.All(3, 4, 0) || x.All(3, 0, 7) || !x.All(7, api.Granules-7, 0) || x.All(7, api.Granules-6, 0) || x.All(api.Granules, 1, -1) {
		t.Error("All")
	}
}

func TestNone(t *testing.T) {
	var x *Tags
	if x.Get(0) != -1 || x.Set(0, 1, 0) || x.All(0, 1, 0) || x.Count() != [16]int{} {
		t.Error("of none")
	}
}
