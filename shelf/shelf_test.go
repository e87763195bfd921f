package shelf

import (
	"cubbyhole/api"
	"math"
	"slices"
	"testing"
)

func area(first, pages int) api.Area { return api.Area{First: first, Pages: pages} }

// Promise 31.1.
func TestPut(t *testing.T) {
	s := New(2)
	for _, x := range []struct{ put, gone api.Area }{{area(1, 2), api.Area{}}, {area(9, 4), api.Area{}}, {area(20, 1), area(1, 2)}, {area(30, 1), area(9, 4)}} {
		if gone, ok := s.Put(x.put); gone != x.gone || ok != (x.gone.Pages > 0) {
			t.Error(x, gone, ok)
		}
	}
	l := s.List()
	if s.Len() != 2 || s.Pages() != 2 || !slices.Equal(l, []api.Area{area(20, 1), area(30, 1)}) {
		t.Error(l)
	}
	l[0] = api.Area{}
	if a, ok := s.First(); a != area(20, 1) || !ok || s.Len() != 1 {
		t.Error(a, ok)
	}
	for most, want := range map[int]int{0: 0, -1: 0, 1: 1, 16: 16, 17: 16, math.MaxInt: 16, math.MinInt: 0} {
		s := New(most)
		for i := range 20 {
			gone, ok := s.Put(area(i+1, 1))
			if ok != (i >= want) || ok && gone != area(i+1-want, 1) {
				t.Error(most, i, gone, ok)
			}
		}
		if s.Len() != want {
			t.Error(most, s.Len())
		}
	}
}

func TestTake(t *testing.T) {
	s := New(9)
	all := []api.Area{area(1, 7), area(10, 3), area(20, 4), area(30, 3), area(40, 6)}
	for _, a := range all {
		s.Put(a)
	}
	if s.Pages() != 23 {
		t.Error(s.Pages())
	}
	for _, x := range []struct {
		pages int
		want  api.Area
	}{{0, api.Area{}}, {-1, api.Area{}}, {1, api.Area{}}, {8, api.Area{}}, {1025, api.Area{}}, {math.MaxInt, api.Area{}}, {math.MinInt, api.Area{}}, {2, area(10, 3)}, {2, area(30, 3)}, {2, area(20, 4)}, {2, api.Area{}}, {7, area(1, 7)}, {3, area(40, 6)}, {3, api.Area{}}} {
		if a, ok := s.Take(x.pages); a != x.want || ok != (x.want.Pages > 0) {
			t.Error(x, a, ok)
		}
	}
	if _, ok := s.First(); ok || s.Len() != 0 {
		t.Error("empty")
	}
	s.Put(area(5, 2))
	if a, ok := s.Take(1); a != area(5, 2) || !ok {
		t.Error(a, ok)
	}
	s.Put(area(0, 1024))
	if a, ok := s.Take(1024); a != area(0, 1024) || !ok {
		t.Error(a, ok)
	}
}

func TestNone(t *testing.T) {
	var s *Shelf
	a, gone := s.Put(area(1, 2))
	_, took := s.Take(1)
	_, first := s.First()
	if a != area(1, 2) || !gone || took || first || s.Len() != 0 || s.Pages() != 0 || s.List() != nil {
		t.Error("of none")
	}
}
