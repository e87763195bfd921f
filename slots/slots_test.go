package slots

import (
	"cubbyhole/api"
	"math"
	"testing"
)

// Promise 7.1.
func TestKeepAndClear(t *testing.T) {
	s := New()
	if s.Has(1) || s.Count() != 0 || s.Next(0) != -1 {
		t.Error("new")
	}
	if !s.Keep(1) || !s.Keep(1) || !s.Has(1) || s.Count() != 1 || !s.Keep(0) || !s.Keep(api.Granules-1) || s.Count() != 3 {
		t.Error("Keep")
	}
	for _, g := range []int{-1, api.Granules, math.MaxInt, math.MinInt} {
		if s.Keep(g) || s.Has(g) || s.Clear(g) {
			t.Error(g)
		}
	}
	if s.Next(math.MinInt) != 0 || s.Next(1) != 1 || s.Next(2) != api.Granules-1 || s.Next(api.Granules) != -1 || s.Next(math.MaxInt) != -1 {
		t.Error("Next")
	}
	if !s.Clear(1) || s.Clear(1) || s.Has(1) || s.Count() != 2 {
		t.Error("Clear")
	}
}

func TestWrote(t *testing.T) {
	s := New()
	for g := range 6 {
		s.Keep(g)
	}
	for _, x := range []struct{ base, n, gone, left int }{{20, 1, 1, 5}, {20, 1, 0, 5}, {15, 1, 1, 4}, {63, 2, 2, 2}, {0, 0, 0, 2}, {-1, 100, 0, 2}, {32, math.MaxInt, 0, 2}, {0, api.MaxBytes, 2, 0}} {
		if n := s.Wrote(api.Span{Base: x.base, Len: x.n}); n != x.gone || s.Count() != x.left {
			t.Error(x, n, s.Count())
		}
	}
}

func TestNone(t *testing.T) {
	var s *Slots
	if s.Has(0) || s.Keep(0) || s.Clear(0) || s.Wrote(api.Span{Len: 1}) != 0 || s.Count() != 0 || s.Next(0) != -1 {
		t.Error("of none")
	}
}
