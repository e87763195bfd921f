package gaps

import (
	"cubbyhole/api"
	"math"
	"slices"
	"testing"
)

func area(first, pages int) api.Area { return api.Area{First: first, Pages: pages} }

// Promise 28.1.
func TestNew(t *testing.T) {
	for _, a := range []api.Area{{}, area(-1, 5), area(0, -1), area(0, 1025), area(1024, 1), area(1020, 5), area(1, math.MaxInt), area(math.MaxInt, 1), area(math.MinInt, math.MinInt)} {
		if New(a) != nil {
			t.Error(a)
		}
	}
	g := New(area(3, 5))
	if g.Free() != 5 || g.Most() != 5 || g.Widest() != 5 || !slices.Equal(g.List(), []api.Area{area(3, 5)}) || New(area(0, 1024)).Free() != 1024 {
		t.Error("new")
	}
}

func TestTakeAndGive(t *testing.T) {
	g := New(area(3, 9))
	for _, x := range []struct {
		give     bool
		first, n int
		err      api.Errno
	}{
		{false, 5, 2, 0}, {false, 6, 1, api.ErrTwice}, {false, 4, 2, api.ErrTwice}, {false, 6, 4, api.ErrTwice}, {true, 4, 2, api.ErrNone}, {true, 5, 3, api.ErrNone}, {true, 3, 1, api.ErrNone}, {false, 10, 2, 0}, {true, 5, 1, 0},
		{false, 2, 1, api.ErrInput}, {false, 12, 1, api.ErrInput}, {false, 11, 2, api.ErrInput}, {false, 3, 0, api.ErrInput}, {false, 3, -1, api.ErrInput}, {false, 3, 10, api.ErrInput}, {false, 4, math.MaxInt, api.ErrInput}, {false, math.MinInt, math.MinInt, api.ErrInput},
		{true, 2, 1, api.ErrInput}, {true, 12, 1, api.ErrInput}, {true, 11, 2, api.ErrInput}, {true, 10, 0, api.ErrInput}, {true, 10, math.MaxInt, api.ErrInput},
	} {
		had := g.List()
		do := g.Take
		if x.give {
			do = g.Give
		}
		got := do(x.first, x.n)
		if got != x.err || x.err != 0 && !slices.Equal(had, g.List()) {
			t.Error(x, got, g.List())
		}
	}
	if g.Free() != 6 || g.Most() != 9 || g.Widest() != 3 || !slices.Equal(g.List(), []api.Area{area(3, 3), area(7, 3)}) {
		t.Error(g.List())
	}
}

func TestFind(t *testing.T) {
	g := New(area(3, 9))
	g.Take(4, 2)
	g.Take(9, 1) // 3; 6 to 8; 10 and 11
	for n, want := range map[int]int{0: -1, -1: -1, 1: 3, 2: 6, 3: 6, 4: -1, math.MaxInt: -1, math.MinInt: -1} {
		if got := g.Find(n); got != want {
			t.Error(n, got)
		}
	}
	g.Take(6, 2)
	if g.Find(2) != 10 || g.Widest() != 2 {
		t.Error(g.List())
	}
	five := New(area(0, 5))
	if five.Take(1, 2); five.Widest() != 2 {
		t.Error(five.List())
	}
	if five.Take(0, 1) != 0 || five.Take(3, 2) != 0 || five.Widest() != 0 || five.Find(1) != -1 || len(five.List()) != 0 {
		t.Error("nothing is left")
	}
}

func TestTwin(t *testing.T) {
	g := New(area(3, 9))
	g.Take(4, 2)
	w := g.Twin()
	if w.Most() != 9 || !slices.Equal(w.List(), g.List()) || w.Take(6, 1) != 0 || g.Free() != 7 || w.Free() != 6 || g.Give(4, 1) != 0 || w.Free() != 6 {
		t.Error("of its own")
	}
}

func TestNone(t *testing.T) {
	var g *Gaps
	if g.Free() != 0 || g.Most() != 0 || g.Find(1) != -1 || g.Take(0, 1) != api.ErrInput || g.Give(0, 1) != api.ErrInput || g.Widest() != 0 || g.List() != nil || g.Twin() != nil {
		t.Error("of none")
	}
}
