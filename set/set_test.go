package set

import (
	"cubbyhole/api"
	"math"
	"slices"
	"testing"
)

// Promise 2.1: every call against a plain list of bools.
func TestAgainstList(t *testing.T) {
	for _, room := range []int{0, 1, 63, 64, 65, 130} {
		s, l := New(room), make([]bool, room)
		seed := uint64(room + 1)
		for range 2000 {
			seed = seed*6364136223846793005 + 1442695040888963407
			x, n := int(seed>>33)%(room+7)-3, int(seed>>50)%(room+7)-3
			switch seed >> 60 % 4 {
			case 0:
				was := x >= 0 && x < room && !l[x]
				if s.Put(x) != was {
					t.Fatal("Put", room, x)
				}
				if was {
					l[x] = true
				}
			case 1:
				was := x >= 0 && x < room && l[x]
				if s.Drop(x) != was {
					t.Fatal("Drop", room, x)
				}
				if was {
					l[x] = false
				}
			case 2:
				if got, want := s.PutAll(x, n), plain(l, x, n, true); got != want {
					t.Fatal("PutAll", room, x, n, got, want)
				}
			case 3:
				if got, want := s.DropAll(x, n/4), plain(l, x, n/4, false); got != want {
					t.Fatal("DropAll", room, x, n, got, want)
				}
			}
			compare(t, s, l, x, n)
		}
	}
}

func plain(l []bool, from, n int, to bool) int {
	changed := 0
	for x := from; from >= 0 && x < from+n && x < len(l); x++ {
		if l[x] != to {
			l[x] = to
			changed++
		}
	}
	return changed
}

func compare(t *testing.T, s *Set, l []bool, from, n int) {
	t.Helper()
	var want []int
	first, some, whole := -1, false, from >= 0 && n >= 0 && from+n <= len(l)
	for x, in := range l {
		if s.Has(x) != in {
			t.Fatal("Has", x)
		}
		if in {
			want = append(want, x)
		}
		if in && x >= from && first < 0 {
			first = x
		}
		if from >= 0 && x >= from && x < from+n {
			some, whole = some || in, whole && in
		}
	}
	if s.Count() != len(want) || !slices.Equal(s.List(), want) || s.First(from) != first || s.Some(from, n) != some || s.Whole(from, n) != whole {
		t.Fatal(from, n, s.List(), want, s.First(from), first, s.Some(from, n), some, s.Whole(from, n), whole)
	}
}

func TestEdges(t *testing.T) {
	if New(-1).Room() != 0 || New(api.MaxSet).Room() != api.MaxSet || New(api.MaxSet+1).Room() != api.MaxSet || New(math.MaxInt).Room() != api.MaxSet {
		t.Error("Room")
	}
	s := New(10)
	if s.PutAll(5, math.MaxInt) != 5 || s.PutAll(-1, math.MaxInt) != 0 || s.PutAll(math.MinInt, math.MaxInt) != 0 || s.PutAll(0, math.MinInt) != 0 || s.PutAll(math.MaxInt, 1) != 0 {
		t.Error(s.List())
	}
	if !s.Some(0, math.MaxInt) || s.Some(-1, math.MaxInt) || s.Some(5, 0) || s.Some(math.MaxInt, math.MaxInt) {
		t.Error("Some")
	}
	if !s.Whole(5, 5) || s.Whole(5, 6) || !s.Whole(10, 0) || !s.Whole(0, 0) || s.Whole(11, 0) || s.Whole(-1, 0) || s.Whole(5, -1) || s.Whole(5, math.MaxInt) || s.Whole(math.MaxInt, math.MaxInt) {
		t.Error("Whole")
	}
	if s.First(math.MinInt) != 5 || s.First(math.MaxInt) != -1 || s.First(10) != -1 {
		t.Error("First")
	}
	if s.DropAll(0, math.MaxInt) != 5 || s.Count() != 0 {
		t.Error("DropAll")
	}
}

func TestTwinAndSame(t *testing.T) {
	s := New(70)
	s.Put(3)
	w := s.Twin()
	if !Same(s, w) || w.Count() != 1 {
		t.Error("alike")
	}
	w.Put(69)
	if Same(s, w) || s.Has(69) {
		t.Error("of its own")
	}
	w.Drop(69)
	l := w.List()
	l[0] = 9
	if !Same(s, w) || Same(New(3), New(4)) || Same(s, nil) || !Same(nil, New(0)) || !Same(nil, nil) || Same(New(1), nil) {
		t.Error("Same")
	}
}

func TestNone(t *testing.T) {
	var s *Set
	if s.Room() != 0 || s.Has(0) || s.Put(0) || s.Drop(0) || s.Count() != 0 || s.First(0) != -1 || s.PutAll(0, 1) != 0 || s.DropAll(0, 1) != 0 || s.Some(0, 1) || s.Whole(0, 0) || s.List() != nil || s.Twin() != nil {
		t.Error("of none")
	}
}
