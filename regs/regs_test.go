package regs

import (
	"cubbyhole/api"
	"math"
	"slices"
	"testing"
)

func one(base, n int) api.Cap {
	return api.Cap{Base: base, Len: n, Cur: base, Perm: 1, Tag: 2, Valid: true}
}

// Promise 15.1.
func TestLen(t *testing.T) {
	for n, want := range map[int]int{0: 0, 1: 1, 64: 64, 65: 64, -1: 0, math.MaxInt: 64, math.MinInt: 0} {
		if got := New(n).Len(); got != want {
			t.Error(n, got)
		}
	}
}

func TestPutGetClear(t *testing.T) {
	r := New(3)
	if c, err := r.Get(2); c != (api.Cap{}) || err != 0 || r.Count() != 0 {
		t.Error("new")
	}
	if r.Put(2, one(0, 16)) != 0 || r.Put(0, one(32, 1)) != 0 || r.Count() != 2 {
		t.Error("Put")
	}
	wrong := one(0, 16)
	wrong.Tag = 16
	for _, h := range []int{-1, 3, math.MaxInt, math.MinInt} {
		c, err := r.Get(h)
		if c != (api.Cap{}) || err != api.ErrHandle || r.Put(h, one(0, 1)) != api.ErrHandle || r.Put(h, wrong) != api.ErrHandle || r.Clear(h) {
			t.Error(h)
		}
	}
	if r.Put(0, wrong) != api.ErrInput || r.Put(0, api.Cap{Base: 1}) != api.ErrInput {
		t.Error("what may not be")
	}
	if c, err := r.Get(0); c != one(32, 1) || err != 0 {
		t.Error(c, err)
	}
	l := r.List()
	if !slices.Equal(l, []api.Cap{one(32, 1), {}, one(0, 16)}) {
		t.Error(l)
	}
	l[0] = api.Cap{}
	if !r.Clear(0) || r.Clear(0) || r.Clear(1) || r.Count() != 1 {
		t.Error("Clear")
	}
	if r.Put(2, api.Cap{}) != 0 || r.Count() != 0 {
		t.Error("none put")
	}
}

func TestMeets(t *testing.T) {
	r := New(4)
	r.Put(3, one(0, 16))
	r.Put(1, one(8, 16))
	r.Put(0, one(64, 1))
	for _, x := range []struct {
		base, n int
		want    []int
	}{{0, 8, []int{3}}, {15, 1, []int{1, 3}}, {16, 48, []int{1}}, {24, 40, nil}, {0, 65, []int{0, 1, 3}}, {0, 0, nil}, {-1, 99, nil}, {0, math.MaxInt, nil}} {
		if got := r.Meets(api.Span{Base: x.base, Len: x.n}); !slices.Equal(got, x.want) {
			t.Error(x, got)
		}
	}
}

func TestNone(t *testing.T) {
	var r *Regs
	c, err := r.Get(0)
	if r.Len() != 0 || c != (api.Cap{}) || err != api.ErrHandle || r.Put(0, c) != api.ErrHandle || r.Clear(0) || r.Count() != 0 || r.Meets(api.Span{Len: 1}) != nil || r.List() != nil {
		t.Error("of none")
	}
}
