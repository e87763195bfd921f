package audit

import (
	"cubbyhole/api"
	"cubbyhole/give"
	"cubbyhole/heap"
	"math"
	"slices"
	"testing"
)

func of(base, n int) api.Span { return api.Span{Base: base, Len: n} }

func made(t *testing.T) *heap.Heap {
	t.Helper()
	h, err := heap.New(api.Conf{Pages: 160, Region: 5, Large: 60, Threads: 2, Cache: 4, Batch: 4, Shelf: 2, Regs: 8, Most: 4000, Fill: 9, Key: 7}, nil)
	if err != 0 {
		t.Fatal(err)
	}
	return h
}

// world has small and large chunks that are live, that wait, and that are free.
func world(t *testing.T) (*heap.Heap, []api.Cap) {
	t.Helper()
	h := made(t)
	var all []api.Cap
	for _, n := range []int{16, 16, 16, 16, 16, 100, 2000, 3000} {
		c, err := h.Malloc(0, n)
		if err != 0 {
			t.Fatal(err)
		}
		all = append(all, c)
	}
	h.Put(0, all[0])
	h.Put(1, all[1])
	give.Free(h, 0, all[1])
	give.Free(h, 0, all[6])
	if Check(h) != 0 {
		t.Fatal(Check(h))
	}
	return h, all
}

// Promise 47.1.
func TestChunks(t *testing.T) {
	h := made(t)
	if l, bad := Chunks(h); len(l) != 0 || bad != 0 || Check(h) != 0 {
		t.Error("new", l, bad)
	}
	h, all := world(t)
	l, bad := Chunks(h)
	if len(l) != 8+4+2 || bad != 0 || Count(l, api.StateLive) != 6 || Count(l, api.StateHeld) != 2 || Count(l, api.StateFree) != 6 || Count(l, 0) != 0 || Count(l, 99) != 0 || Count(nil, 1) != 0 {
		t.Error(len(l), bad)
	}
	if !slices.IsSortedFunc(l, func(a, b api.Chunk) int { return a.At - b.At }) {
		t.Error("rising")
	}
	for _, c := range l {
		room, k, ok := h.Find(c.At)
		head, err := h.K.Get(c.At)
		if !ok || room != c.Room || k != c.Head.Class || head != c.Head || err != 0 {
			t.Error(c)
		}
	}
	h.M.Write(all[5].Base-10, []byte{1})
	h.M.Write(all[7].Base-10, []byte{1})
	l, bad = Chunks(h)
	if bad != 2 || Count(l, 0) != 2 || Count(l, api.StateLive) != 4 || l[13] != (api.Chunk{At: all[7].Base, Room: l[13].Room}) {
		t.Error(bad, l[13])
	}
}

func TestWrong(t *testing.T) {
	for i, x := range []struct {
		spoil func(h *heap.Heap, all []api.Cap)
		want  int
	}{
		{func(h *heap.Heap, all []api.Cap) {}, 0},
		// headers
		{func(h *heap.Heap, all []api.Cap) { h.M.Write(free(h)-16, []byte{1}) }, api.WrongHead},
		{func(h *heap.Heap, all []api.Cap) { h.M.Write(all[1].Base-16, []byte{1}) }, api.WrongHead},
		{func(h *heap.Heap, all []api.Cap) { h.M.Write(all[0].Base-16, []byte{1}) }, api.WrongHead | api.WrongCount},
		{func(h *heap.Heap, all []api.Cap) { h.K.Put(free(h), api.Head{State: 1, Class: 3}) }, api.WrongHead},
		{func(h *heap.Heap, all []api.Cap) { h.K.Put(free(h), api.Head{State: 3}) }, api.WrongHead},
		{func(h *heap.Heap, all []api.Cap) { h.K.Put(all[1].Base, api.Head{State: 1}) }, api.WrongHead | api.WrongKnown},
		{func(h *heap.Heap, all []api.Cap) { h.K.Put(all[6].Base, api.Head{State: 1, Class: 63}) }, api.WrongHead},
		// tags
		{func(h *heap.Heap, all []api.Cap) { h.M.SetTag(of(all[5].Base+111, 1), 0) }, api.WrongTag},
		{func(h *heap.Heap, all []api.Cap) { h.M.SetTag(of(all[5].Base, 112), all[5].Tag%15+1) }, api.WrongTag},
		{func(h *heap.Heap, all []api.Cap) { h.M.SetTag(of(all[5].Base-1, 1), 3) }, api.WrongTag},
		{func(h *heap.Heap, all []api.Cap) { retag(h, all[5], 0) }, api.WrongTag},
		{func(h *heap.Heap, all []api.Cap) { retag(h, all[5], all[5].Tag%15+1) }, 0},
		{func(h *heap.Heap, all []api.Cap) {
			for _, i := range []int{0, 2, 3, 4} {
				retag(h, all[i], 5)
			}
		}, api.WrongTag},
		{func(h *heap.Heap, all []api.Cap) { h.M.SetTag(of(free(h), 16), 0); h.M.SetTag(of(free(h)-1, 1), 3) }, 0},
		// paint
		{func(h *heap.Heap, all []api.Cap) { h.P.Put(of(free(h), 1)) }, api.WrongPaint},
		{func(h *heap.Heap, all []api.Cap) { h.P.Clean(of(all[6].Base+2001, 1)) }, api.WrongPaint},
		{func(h *heap.Heap, all []api.Cap) {
			h.P.Clean(of(all[6].Base, 1))
			h.P.Put(of(free(h), 1))
		}, api.WrongPaint},
		{func(h *heap.Heap, all []api.Cap) { h.P.Put(of(all[6].Base-16, 1)) }, api.WrongPaint},
		// counts
		{func(h *heap.Heap, all []api.Cap) { h.S.Got++ }, api.WrongCount},
		{func(h *heap.Heap, all []api.Cap) { h.S.Ended++ }, api.WrongCount},
		{func(h *heap.Heap, all []api.Cap) { h.S.Given++; h.S.Got++ }, api.WrongCount},
		{func(h *heap.Heap, all []api.Cap) { h.S.Live-- }, api.WrongCount},
		{func(h *heap.Heap, all []api.Cap) { h.S.Peak = 0 }, api.WrongCount},
		{func(h *heap.Heap, all []api.Cap) { h.S.Clear = -1 }, api.WrongCount},
		{func(h *heap.Heap, all []api.Cap) { h.S.Clear++; h.S.Got++; h.S.Given++; h.S.Ended++ }, 0},
		// what is known
		{func(h *heap.Heap, all []api.Cap) {
			h.R.Put(7, api.Cap{Base: free(h) + 15, Len: 1, Tag: 1, Valid: true})
		}, api.WrongKnown},
		{func(h *heap.Heap, all []api.Cap) {
			h.R.Put(7, api.Cap{Base: free(h) - 16, Len: 16, Tag: 1, Valid: true})
		}, 0},
	} {
		h, all := world(t)
		x.spoil(h, all)
		if got := Check(h); got != x.want {
			t.Error(i, got, x.want)
		}
	}
}

// free is a free chunk.
func free(h *heap.Heap) int {
	l, _ := Chunks(h)
	for _, c := range l {
		if c.Head == (api.Head{State: api.StateFree}) {
			return c.At
		}
	}
	return -1
}

// retag gives a live chunk, and its header, a tag.
func retag(h *heap.Heap, c api.Cap, tag int) {
	room, _, _ := h.Find(c.Base)
	head, _ := h.K.Get(c.Base)
	head.Tag = tag
	h.M.SetTag(of(c.Base, room), tag)
	h.K.Put(c.Base, head)
}

func TestLap(t *testing.T) {
	for _, x := range []struct {
		l   []api.Chunk
		lap bool
	}{{nil, false}, {[]api.Chunk{{At: 16, Room: 16}, {At: 48, Room: 16}}, false}, {[]api.Chunk{{At: 16, Room: 17}, {At: 48, Room: 16}}, true}, {[]api.Chunk{{At: 16, Room: 16}, {At: 32, Room: 16}}, true}, {[]api.Chunk{{At: 16, Room: 16}, {At: 16, Room: 16}}, true}} {
		if wrongLap(x.l) != x.lap {
			t.Error(x)
		}
	}
}

// Nothing is wrong, whatever is done.
func TestNothingIsWrong(t *testing.T) {
	seed := uint64(21)
	below := func(n int) int {
		seed = seed*6364136223846793005 + 1442695040888963407
		return int(seed>>33) % n
	}
	h := made(t)
	var all []api.Cap
	for i := range 1500 {
		n := 1 + below(300)
		if below(5) == 0 {
			n = 1 + below(4000)
		}
		if c, err := h.Malloc(below(2), n); err == 0 {
			h.Put(below(8), c)
			if len(all) > 0 {
				h.Store(all[below(len(all))], c)
			}
			all = append(all, c)
		}
		if len(all) > 0 && below(20) < 11 {
			j := below(len(all))
			give.Free(h, below(2), all[j])
			all = slices.Delete(all, j, j+1)
		}
		switch below(30) {
		case 0, 1:
			h.Start()
		case 2:
			h.Release()
		}
		h.Step(below(300))
		if sum := Check(h); sum != 0 {
			t.Fatal(i, sum)
		}
	}
	for _, c := range all {
		give.Free(h, 0, c)
	}
	for range 2 {
		h.Start()
		h.Step(math.MaxInt)
	}
	h.Release()
	if l, _ := Chunks(h); len(l) != 0 || Check(h) != 0 || h.M.Used() != 0 {
		t.Error("not as a new one", l)
	}
}

func TestNone(t *testing.T) {
	if l, bad := Chunks(nil); l != nil || bad != 0 || Check(nil) != 0 {
		t.Error("of none")
	}
}
