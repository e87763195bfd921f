package room

import (
	"cubbyhole/api"
	"cubbyhole/class"
	"cubbyhole/give"
	"cubbyhole/heap"
	"math"
	"testing"
)

func made(t *testing.T, change func(c *api.Conf)) *heap.Heap {
	t.Helper()
	c := api.Conf{Pages: 160, Region: 5, Large: 60, Threads: 2, Cache: 4, Batch: 4, Shelf: 2, Regs: 8, Most: 4000, Key: 7}
	if change != nil {
		change(&c)
	}
	h, err := heap.New(c, nil)
	if err != 0 {
		t.Fatal(err)
	}
	return h
}

// Promise 43.1.
func TestUsedAndWaste(t *testing.T) {
	h := made(t, nil)
	for range 5 {
		h.Malloc(0, 20)
	}
	c, _ := h.Malloc(1, 130)
	give.Free(h, 0, c)
	h.Malloc(0, 5)
	for k := range api.Classes {
		used, waste := 0, 0
		switch k {
		case 0:
			used, waste = 1, 15 // for 1 byte at least
		case 1:
			used, waste = 5, 5*15
		case 8:
			used, waste = 1, 160-129
		}
		if Used(h, k) != used || Waste(h, k) != waste {
			t.Error(k, Used(h, k), Waste(h, k))
		}
	}
	for _, k := range []int{-1, 20, math.MaxInt, math.MinInt} {
		if Used(h, k) != 0 || Waste(h, k) != 0 {
			t.Error(k)
		}
	}
}

func TestSmall(t *testing.T) {
	h := made(t, nil)
	fit := 40
	for i := range fit {
		cached := h.Small.Cached(0)
		if Sure(h, 16) != (i+cached < fit) || Formula(h, 1) != (i+8 < fit) {
			t.Error(i, cached, Sure(h, 16), Formula(h, 1))
		}
		h.Malloc(i/3%2, 16)
	}
	if Sure(h, 1) || Formula(h, 1) || !Sure(h, 17) || !Formula(h, 17) || !Sure(h, 1024) || Formula(h, 1024) {
		t.Error("full")
	}
	for _, n := range []int{0, -1, 4001, math.MaxInt, math.MinInt} {
		if Sure(h, n) || Formula(h, n) {
			t.Error(n)
		}
	}
	less := made(t, func(c *api.Conf) { c.Pages = 159 })
	if Sure(less, 1) || Formula(less, 1) || Sure(less, 2000) || Formula(less, 2000) {
		t.Error("not ample")
	}
	if only := made(t, func(c *api.Conf) { c.Most = 10 }); !Sure(only, 10) || Sure(only, 11) || Formula(only, 11) {
		t.Error("Most")
	}
}

func TestLarge(t *testing.T) {
	h := made(t, nil)
	// 2000 bytes need 8 pages; 10 with guards
	for i, x := range []struct{ sure, formula bool }{{true, true}, {true, true}, {true, true}, {true, false}, {true, false}, {true, false}, {false, false}} {
		// formula: 60 - 10 i > (i + 1) * 9
		if Sure(h, 2000) != x.sure || Formula(h, 2000) != (60-10*i > (i+1)*9) || Formula(h, 2000) != x.formula {
			t.Error(i, Sure(h, 2000), Formula(h, 2000))
		}
		h.Malloc(0, 2000)
	}
	h = made(t, nil)
	c, _ := h.Malloc(0, 2000)
	give.Free(h, 0, c)
	h.Start()
	h.Step(math.MaxInt)
	if len(h.Large.Shelf()) != 1 || !Formula(h, 4000) || !Sure(h, 4000) {
		// 60 - 10 > 2 * 17
		t.Error("with the shelf")
	}
	h.Malloc(0, 4000)
	// 60 - 10 - 18 > 3 * 9, but not 3 * 17; the gap is 32 wide
	if !Formula(h, 2000) || Formula(h, 4000) || !Sure(h, 4000) {
		t.Error("with both")
	}
	h = made(t, func(c *api.Conf) { c.Large = 40 })
	a, _ := h.Malloc(0, 2000)
	b, _ := h.Malloc(0, 2000)
	give.Free(h, 0, a)
	give.Free(h, 0, b)
	h.Start()
	h.Step(math.MaxInt)
	// two on the shelf: 40 - 20 > 3 * (need + 1): for 5 pages, not for 6
	if !Formula(h, 5*256-16) || Formula(h, 5*256-15) {
		t.Error("each on the shelf is a hole more")
	}
	h = made(t, func(c *api.Conf) { c.Large = 43 })
	a, _ = h.Malloc(0, 3000)
	give.Free(h, 0, a)
	h.Start()
	h.Step(math.MaxInt)
	// 12 pages with two guards: 43 - 14 > 2 * (need + 1): for 13 pages, not for 14
	if !Formula(h, 13*256-16) || Formula(h, 13*256-15) {
		t.Error("guards of what is on the shelf")
	}
	none := made(t, func(c *api.Conf) { c.Large = 0 })
	if Sure(none, 2000) || Formula(none, 2000) || !Sure(none, 1) {
		t.Error("no pages for large ones")
	}
	just := made(t, func(c *api.Conf) { c.Large = 10 })
	if !Sure(just, 2032) || Sure(just, 2033) || !Formula(just, 2032) || Formula(just, 2033) {
		t.Error("just as wide")
	}
}

// Promise 43.2: where there is room, it is got, whatever was done ahead.
func TestWhatFollows(t *testing.T) {
	seed := uint64(11)
	below := func(n int) int {
		seed = seed*6364136223846793005 + 1442695040888963407
		return int(seed>>33) % n
	}
	for round := range 6 {
		h := made(t, func(c *api.Conf) { c.Shelf, c.Cache = round, 4+round })
		var all []api.Cap
		for range 1500 {
			n := class.Of(below(api.Classes)) - below(15)
			if below(3) == 0 {
				n = 1025 + below(2975)
			}
			thread := below(2)
			sure := Sure(h, n) || Formula(h, n)
			c, err := h.Malloc(thread, n)
			if sure && err != 0 {
				t.Fatal(n, err)
			}
			if err == 0 {
				all = append(all, c)
			}
			if len(all) > 0 && below(5) < 3 {
				i := below(len(all))
				give.Free(h, thread, all[i])
				all = append(all[:i], all[i+1:]...)
			}
			if below(8) == 0 {
				h.Start()
			}
			h.Step(below(400))
			if below(200) == 0 {
				h.Release()
			}
		}
	}
}

func TestNone(t *testing.T) {
	if Used(nil, 0) != 0 || Sure(nil, 1) || Formula(nil, 1) || Waste(nil, 0) != 0 {
		t.Error("of none")
	}
}
