package pages

import (
	"cubbyhole/api"
	"math"
	"slices"
	"testing"
)

// Promise 4.1.
func TestMap(t *testing.T) {
	p := New(4)
	for _, x := range []struct {
		first, n int
		err      api.Errno
	}{
		{0, 5, api.ErrPages}, {2, 2, api.OK}, {3, 1, api.ErrMapped}, {1, 5, api.ErrMapped}, {4, 3, api.ErrPages}, {1023, 1, api.OK}, {1023, 1, api.ErrMapped}, {0, 2, api.ErrPages}, {0, 1, api.OK},
		{0, 0, api.ErrInput}, {0, -1, api.ErrInput}, {-1, 1, api.ErrInput}, {1024, 1, api.ErrInput}, {1023, 2, api.ErrInput}, {0, 1025, api.ErrInput}, {1, math.MaxInt, api.ErrInput}, {math.MaxInt, 1, api.ErrInput}, {math.MinInt, math.MinInt, api.ErrInput},
	} {
		had := p.List()
		if err := p.Map(x.first, x.n); err != x.err {
			t.Error(x, err)
		}
		if x.err != api.OK && !slices.Equal(had, p.List()) {
			t.Error("changed", x)
		}
	}
	if !slices.Equal(p.List(), []int{0, 2, 3, 1023}) || p.Used() != 4 || p.Most() != 4 || p.Peak() != 4 {
		t.Error(p.List(), p.Used(), p.Most(), p.Peak())
	}
}

func TestUnmap(t *testing.T) {
	p := New(9)
	p.Map(2, 4)
	for _, x := range []struct {
		first, n int
		err      api.Errno
	}{{1, 2, api.ErrMapped}, {5, 2, api.ErrMapped}, {3, 2, api.OK}, {2, 4, api.ErrMapped}, {3, 1, api.ErrMapped}, {2, 0, api.ErrInput}, {-1, 1, api.ErrInput}, {1024, 1, api.ErrInput}, {2, math.MaxInt, api.ErrInput}} {
		if err := p.Unmap(x.first, x.n); err != x.err {
			t.Error(x, err)
		}
	}
	if !slices.Equal(p.List(), []int{2, 5}) || p.Used() != 2 || p.Peak() != 4 {
		t.Error(p.List(), p.Peak())
	}
	if p.Map(3, 1) != api.OK || p.Peak() != 4 {
		t.Error("again")
	}
}

func TestAsk(t *testing.T) {
	p := New(9)
	p.Map(2, 3)
	if p.Has(1) || !p.Has(2) || !p.Has(4) || p.Has(5) || p.Has(-1) || p.Has(math.MaxInt) {
		t.Error("Has")
	}
	if !p.Whole(2, 3) || p.Whole(2, 4) || p.Whole(1, 2) || p.Whole(2, 0) || p.Whole(2, -1) || p.Whole(-1, 2) || p.Whole(2, math.MaxInt) {
		t.Error("Whole")
	}
	if p.Next(0) != 2 || p.Next(-5) != 2 || p.Next(3) != 3 || p.Next(5) != -1 || p.Next(math.MaxInt) != -1 {
		t.Error("Next")
	}
	if New(-1).Most() != 0 || New(1025).Most() != 1024 || New(-1).Map(0, 1) != api.ErrPages || New(5000).Map(0, 1024) != api.OK {
		t.Error("Most")
	}
}

func TestNone(t *testing.T) {
	var p *Pages
	if p.Map(0, 1) != api.ErrInput || p.Unmap(0, 1) != api.ErrInput || p.Has(0) || p.Whole(0, 1) || p.Used() != 0 || p.Most() != 0 || p.Peak() != 0 || p.List() != nil || p.Next(0) != -1 {
		t.Error("of none")
	}
}
