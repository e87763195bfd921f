package capa

import (
	"cubbyhole/api"
	"math"
	"testing"
)

func of(base, n int) api.Span { return api.Span{Base: base, Len: n} }

func good() api.Cap {
	return api.Cap{Base: 32, Len: 16, Cur: 40, Perm: 3, Tag: 5, Valid: true}
}

// bent is a capability that may not be any more.
func bent() []api.Cap {
	var l []api.Cap
	for _, bend := range []func(c *api.Cap){
		func(c *api.Cap) { c.Valid = false }, func(c *api.Cap) { c.Len = 0 }, func(c *api.Cap) { c.Base = -1 }, func(c *api.Cap) { c.Len = api.MaxBytes }, func(c *api.Cap) { c.Len = math.MaxInt },
		func(c *api.Cap) { c.Cur = c.Base + api.MaxOff + 1 }, func(c *api.Cap) { c.Cur = c.Base - api.MaxOff - 1 }, func(c *api.Cap) { c.Cur = math.MinInt }, func(c *api.Cap) { c.Cur = math.MaxInt },
		func(c *api.Cap) { c.Perm = 32 }, func(c *api.Cap) { c.Perm = -1 }, func(c *api.Cap) { c.Tag = 16 }, func(c *api.Cap) { c.Tag = -1 },
	} {
		c := good()
		bend(&c)
		l = append(l, c)
	}
	return append(l, api.Cap{Valid: true})
}

// Promise 10.1.
func TestMay(t *testing.T) {
	c := good()
	if !May(c) || !May(api.Cap{}) || Span(c) != of(32, 16) || Off(c) != 8 || Span(api.Cap{}) != of(0, 0) {
		t.Error("May, Span, Off")
	}
	for _, cur := range []int{32 - api.MaxOff, 32 + api.MaxOff, 0, 32} {
		c.Cur = cur
		if !May(c) || Off(c) != cur-32 {
			t.Error(cur)
		}
	}
	c = good()
	c.Tag, c.Perm = 0, 0
	if !May(c) {
		t.Error("tag 0")
	}
	for i, c := range bent() {
		if May(c) || In(c, 0) || Within(c, good()) || Within(good(), c) {
			t.Error(i, c)
		}
	}
	for _, c := range []api.Cap{{Base: 1}, {Len: 1}, {Cur: 1}, {Perm: 1}, {Tag: 1}} {
		if May(c) {
			t.Error(c)
		}
	}
}

func TestNew(t *testing.T) {
	for _, x := range []struct {
		s   api.Span
		tag int
		ok  bool
	}{{of(32, 16), 5, true}, {of(0, api.MaxBytes), 0, true}, {of(0, 1), 15, true}, {of(0, 1), 16, false}, {of(0, 1), -1, false}, {of(0, 0), 1, false}, {of(-1, 1), 1, false}, {of(1, math.MaxInt), 1, false}} {
		want := api.Cap{}
		if x.ok {
			want = api.Cap{Base: x.s.Base, Len: x.s.Len, Cur: x.s.Base, Perm: api.PermAll, Tag: x.tag, Valid: true}
		}
		if c, ok := New(x.s, x.tag); ok != x.ok || c != want {
			t.Error(x, c, ok)
		}
	}
}

func TestIn(t *testing.T) {
	for _, x := range []struct {
		cur, n int
		in     bool
	}{{32, 16, true}, {32, 17, false}, {40, 8, true}, {40, 9, false}, {48, 0, true}, {48, 1, false}, {49, 0, false}, {31, 1, false}, {31, 0, false}, {32, -1, false}, {32, math.MaxInt, false}, {32, math.MinInt, false}} {
		c := good()
		c.Cur = x.cur
		if In(c, x.n) != x.in {
			t.Error(x)
		}
	}
	if In(api.Cap{}, 0) {
		t.Error("of none")
	}
}

func TestWithin(t *testing.T) {
	for i, x := range []struct {
		change func(c *api.Cap)
		in     bool
	}{
		{func(c *api.Cap) {}, true}, {func(c *api.Cap) { c.Base, c.Len = 40, 8 }, true}, {func(c *api.Cap) { c.Len = 17 }, false}, {func(c *api.Cap) { c.Base = 31 }, false},
		{func(c *api.Cap) { c.Perm = 1 }, true}, {func(c *api.Cap) { c.Perm = 7 }, false}, {func(c *api.Cap) { c.Tag = 4 }, false}, {func(c *api.Cap) { c.Cur = 9999 }, true},
	} {
		c := good()
		x.change(&c)
		if Within(c, good()) != x.in {
			t.Error(i)
		}
	}
	if Within(api.Cap{}, good()) || Within(good(), api.Cap{}) || Within(api.Cap{}, api.Cap{}) {
		t.Error("none")
	}
}

func TestMeets(t *testing.T) {
	odd := good()
	odd.Perm, odd.Tag, odd.Cur = 99, -7, math.MinInt
	none := good()
	none.Valid = false
	for _, x := range []struct {
		s    api.Span
		both bool
	}{{of(47, 5), true}, {of(48, 5), false}, {of(0, 33), true}, {of(0, 32), false}, {of(40, 0), false}, {of(0, api.MaxBytes), true}, {of(0, math.MaxInt), false}} {
		if Meets(good(), x.s) != x.both || Meets(odd, x.s) != x.both || Meets(none, x.s) {
			t.Error(x)
		}
	}
}
