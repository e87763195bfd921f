package conf

import (
	"cubbyhole/api"
	"math"
	"testing"
)

func good() api.Conf {
	return api.Conf{Pages: 160, Region: 5, Large: 60, Threads: 2, Cache: 4, Batch: 4, Shelf: 2, Regs: 8, Most: 4000, Fill: 0, Key: 7}
}

// Promise 38.1.
func TestCheck(t *testing.T) {
	if Check(good()) != 0 {
		t.Error("good")
	}
	for i, x := range []struct {
		field    func(c *api.Conf) *int
		from, to int
	}{
		{func(c *api.Conf) *int { return &c.Pages }, 1, 1024}, {func(c *api.Conf) *int { return &c.Region }, 5, 16}, {func(c *api.Conf) *int { return &c.Large }, 0, 924}, {func(c *api.Conf) *int { return &c.Threads }, 1, 8},
		{func(c *api.Conf) *int { return &c.Batch }, 1, 4}, {func(c *api.Conf) *int { return &c.Cache }, 4, 32}, {func(c *api.Conf) *int { return &c.Shelf }, 0, 16}, {func(c *api.Conf) *int { return &c.Regs }, 1, 64},
		{func(c *api.Conf) *int { return &c.Most }, 1, api.MaxLarge}, {func(c *api.Conf) *int { return &c.Fill }, 0, 255},
	} {
		for _, n := range []int{x.from, x.to, x.from - 1, x.to + 1, math.MaxInt, math.MinInt} {
			c := good()
			*x.field(&c) = n
			want := api.ErrInput
			if n >= x.from && n <= x.to {
				want = 0
			} else if i == 2 && n == 925 {
				want = api.ErrBig
			}
			if err := Check(c); err != want {
				t.Error(i, n, err)
			}
		}
	}
	c := good()
	c.Batch, c.Cache = 17, 32
	if Check(c) != api.ErrInput {
		t.Error("a batch of 17")
	}
	c.Batch, c.Cache, c.Large, c.Region = 16, 16, 1024, 16
	if Check(c) != api.ErrBig {
		t.Error("too many pages")
	}
	c.Large, c.Fill = 1024, 256
	if Check(c) != api.ErrInput {
		t.Error("ErrInput comes first")
	}
	c.Large, c.Fill = 1025, 0
	if Check(c) != api.ErrInput {
		t.Error("1025 large ones")
	}
	if Check(api.Conf{}) != api.ErrInput {
		t.Error("zero")
	}
}

func TestAreas(t *testing.T) {
	c := good()
	if Small(c) != (api.Area{Pages: 100}) || Large(c) != (api.Area{First: 100, Pages: 60}) || !Ample(c) {
		t.Error(Small(c), Large(c))
	}
	c.Pages = 159
	if Ample(c) {
		t.Error("a page is missing")
	}
	c = good()
	c.Large = 0
	if Small(c) != (api.Area{Pages: 100}) || Large(c).Pages != 0 {
		t.Error(Large(c))
	}
	for _, c := range bad() {
		if Small(c) != (api.Area{}) || Large(c) != (api.Area{}) || Ample(c) || Fit(c, 0) != 0 {
			t.Error(c)
		}
		for _, at := range []int{0, -1, 30000, api.MaxBytes} {
			if k, ok := Of(c, at); k != 0 || ok {
				t.Error(c, at, k)
			}
		}
	}
}

func bad() []api.Conf {
	a, b := good(), good()
	a.Fill, b.Large = -1, 925
	b.Pages = 1024
	return []api.Conf{{}, a, b}
}

func TestFit(t *testing.T) {
	for k, want := range map[int]int{0: 40, 19: 1, 20: 0, -1: 0, math.MaxInt: 0} {
		if Fit(good(), k) != want {
			t.Error(k, Fit(good(), k))
		}
	}
}

func TestOf(t *testing.T) {
	for at, want := range map[int]struct {
		k  int
		ok bool
	}{0: {0, true}, 1279: {0, true}, 1280: {1, true}, 25599: {19, true}, 25600: {-1, true}, 40959: {-1, true}, 40960: {-1, false}, api.MaxBytes - 1: {-1, false}, api.MaxBytes: {0, false}, -1: {0, false}, math.MaxInt: {0, false}, math.MinInt: {0, false}} {
		if k, ok := Of(good(), at); k != want.k || ok != want.ok {
			t.Error(at, k, ok)
		}
	}
}
