package drain

import (
	"cubbyhole/api"
	"cubbyhole/audit"
	"cubbyhole/give"
	"cubbyhole/heap"
	"cubbyhole/mem"
	"math"
	"testing"
)

func made(t *testing.T) *heap.Heap {
	t.Helper()
	h, err := heap.New(api.Conf{Pages: 160, Region: 5, Large: 60, Threads: 2, Cache: 4, Batch: 4, Shelf: 2, Regs: 8, Most: 4000, Fill: 9, Key: 7}, nil)
	if err != 0 {
		t.Fatal(err)
	}
	return h
}

func get(t *testing.T, h *heap.Heap, sizes ...int) []api.Cap {
	t.Helper()
	var all []api.Cap
	for _, n := range sizes {
		c, err := h.Malloc(0, n)
		if err != 0 {
			t.Fatal(err)
		}
		all = append(all, c)
	}
	return all
}

// Promise 49.1.
func TestCap(t *testing.T) {
	h := made(t)
	all := get(t, h, 20, 20, 2000, 5)
	give.Free(h, 0, all[1])
	l, _ := audit.Chunks(h)
	live := 0
	for _, c := range l {
		whole, ok := Cap(h, c)
		if ok != (c.Head.State == api.StateLive) || !ok && whole != (api.Cap{}) {
			t.Error(c, whole, ok)
		}
		if !ok {
			continue
		}
		live++
		if whole != (api.Cap{Base: c.At, Len: c.Head.Size, Cur: c.At, Perm: api.PermAll, Tag: c.Head.Tag, Valid: true}) {
			t.Error(whole)
		}
		if give.Free(h, 0, whole) != 0 {
			t.Error("given back", whole)
		}
		if whole, ok := Cap(h, c); ok || whole != (api.Cap{}) {
			t.Error("long ago", whole)
		}
	}
	if live != 3 {
		t.Error(live)
	}
	for _, c := range []api.Chunk{{}, {At: 16, Head: api.Head{State: api.StateLive, Size: -1, Tag: 99}}, {At: math.MinInt, Head: api.Head{State: api.StateLive, Size: 5, Tag: 1}}} {
		if whole, ok := Cap(h, c); ok || whole != (api.Cap{}) {
			t.Error(c, whole)
		}
	}
}

func TestAll(t *testing.T) {
	h := made(t)
	all := get(t, h, 20, 20, 2000, 5, 100, 4000)
	give.Free(h, 0, all[1])
	h.M.Write(all[3].Base-16, []byte{0})
	for _, thread := range []int{-1, 2} {
		if n := All(h, thread); n != 0 {
			t.Error(thread, n)
		}
	}
	if n := All(h, 1); n != 4 || h.Q.Len() != 5 || h.Q.List()[4].Thread != 1 || All(h, 1) != 0 {
		t.Error(n, h.Q.List())
	}
}

func TestFinishAndBound(t *testing.T) {
	h := made(t)
	get(t, h, 20, 2000)
	work := 8 + 16*h.M.Used()
	for _, x := range [][2]int{{1, work}, {0, work}, {-1, work}, {math.MinInt, work}, {7, (work + 6) / 7}, {work, 1}, {work - 1, 2}, {math.MaxInt, 1}} {
		if n := Bound(h, x[0]); n != x[1] {
			t.Error(x, n)
		}
		if n := Finish(h, x[0]); n != 0 {
			t.Error("none goes on", n)
		}
		h.Start()
		if n := Finish(h, x[0]); n != x[1] || h.E.On() {
			t.Error(x, n)
		}
	}
}

func TestSettle(t *testing.T) {
	h := made(t)
	all := get(t, h, 20, 20, 2000, 5)
	give.Free(h, 0, all[0])
	h.Start()
	h.Step(3)
	give.Free(h, 0, all[2])
	if n := Settle(h, 5); n != 2 || h.Q.Len() != 0 || h.E.Now() != 2 || h.E.On() || h.S.Ended != 2 {
		t.Error(n, h.Q.List(), h.E)
	}
	if n := Settle(h, 5); n != 0 || h.E.Now() != 3 {
		t.Error("none waited", n)
	}
	give.Free(h, 0, all[1])
	give.Free(h, 0, all[3])
	h.M.Write(all[3].Base-16, []byte{0})
	if n := Settle(h, 0); n != 1 || h.Q.Len() != 0 || h.S.Ended != 4 {
		t.Error("one is lost", n)
	}
}

// Promise T5: when all is given back, settled and released, the allocator is as a new one.
func TestAsANewOne(t *testing.T) {
	h := made(t)
	get(t, h, 20, 2000, 4000, 1024, 300, 1, 1, 1, 1, 1, 1)
	if n := All(h, 0); n != 11 || Settle(h, 9) != 11 || h.Q.Len() != 0 {
		t.Error(n)
	}
	h.Release()
	if l, _ := audit.Chunks(h); len(l) != 0 || !mem.Same(h.M, mem.New(1)) || h.P.Count() != 0 || h.Large.Widest() != 60 || len(h.Large.Shelf()) != 0 {
		t.Error("not as a new one", l)
	}
}

// Promise 49.2: whatever is done between, an epoch ends in as many steps as it was told when it began.
func TestEnds(t *testing.T) {
	seed := uint64(5)
	below := func(n int) int {
		seed = seed*6364136223846793005 + 1442695040888963407
		return int(seed>>33) % n
	}
	h := made(t)
	for round := range 200 {
		most := below(60) - 2
		bound := Bound(h, most)
		if h.Start() != 0 {
			t.Fatal(round)
		}
		steps := 0
		for h.E.On() {
			for range below(4) {
				c, _ := h.Malloc(below(2), 1+below(3000))
				h.Put(below(8), c)
			}
			if below(3) == 0 {
				All(h, 0)
			}
			if below(20) == 0 {
				h.Release()
			}
			h.Step(most)
			steps++
		}
		if steps > bound {
			t.Fatal(round, most, steps, bound)
		}
	}
}

func TestNone(t *testing.T) {
	if _, ok := Cap(nil, api.Chunk{At: 16, Head: api.Head{State: 2, Size: 5, Tag: 1}}); ok || All(nil, 0) != 0 || Finish(nil, 1) != 0 || Bound(nil, 1) != 0 || Settle(nil, 1) != 0 {
		t.Error("of none")
	}
}
