package give

import (
	"cubbyhole/api"
	"cubbyhole/derive"
	"cubbyhole/heap"
	"cubbyhole/mem"
	"math"
	"slices"
	"testing"
)

func of(base, n int) api.Span { return api.Span{Base: base, Len: n} }

func made(t *testing.T) *heap.Heap {
	t.Helper()
	h, err := heap.New(api.Conf{Pages: 160, Region: 5, Large: 60, Threads: 2, Cache: 4, Batch: 4, Shelf: 2, Regs: 8, Most: 4000, Key: 7}, nil)
	if err != 0 {
		t.Fatal(err)
	}
	return h
}

func get(t *testing.T, h *heap.Heap, n int) api.Cap {
	t.Helper()
	c, err := h.Malloc(0, n)
	if err != 0 {
		t.Fatal(err)
	}
	return c
}

func oneEpoch(h *heap.Heap) {
	h.Start()
	h.Step(math.MaxInt)
}

// Promise 41.1.
func TestChunk(t *testing.T) {
	h := made(t)
	for _, n := range []int{1, 20, 1024, 2000} {
		c := get(t, h, n)
		room, k, _ := h.Find(c.Base)
		hd, got, err := Chunk(h, c)
		if hd != (api.Head{State: api.StateLive, Class: k, Tag: c.Tag, Size: n}) || got != room || err != 0 {
			t.Error(n, hd, got, err)
		}
		if got, err := Usable(h, c); got != room || err != 0 {
			t.Error(n, got, err)
		}
	}
}

func TestRefused(t *testing.T) {
	h := made(t)
	c, big := get(t, h, 40), get(t, h, 2000)
	change := func(c api.Cap, change func(c *api.Cap)) api.Cap {
		change(&c)
		return c
	}
	for i, x := range []struct {
		c   api.Cap
		err api.Errno
	}{
		{api.Cap{}, api.ErrDead}, {change(c, func(c *api.Cap) { c.Tag = c.Tag%15 + 1 }), api.ErrDead}, {change(c, func(c *api.Cap) { c.Tag = 0 }), api.ErrDead}, {change(c, func(c *api.Cap) { c.Valid = false }), api.ErrDead},
		{change(c, func(c *api.Cap) { c.Perm = 15 }), api.ErrPerm}, {change(c, func(c *api.Cap) { c.Perm, c.Cur = 15, 0 }), api.ErrPerm}, {change(c, func(c *api.Cap) { c.Perm = 16 }), 0},
		{change(c, func(c *api.Cap) { c.Cur++ }), api.ErrBase}, {change(c, func(c *api.Cap) { c.Base += 16; c.Cur = c.Base; c.Len = 16 }), api.ErrBase}, {change(c, func(c *api.Cap) { c.Base++; c.Len-- }), api.ErrBase},
		{change(c, func(c *api.Cap) { c.Len = 39 }), api.ErrBase}, {change(c, func(c *api.Cap) { c.Len = 41 }), api.ErrBase}, {change(big, func(c *api.Cap) { c.Base += 256; c.Cur = c.Base }), api.ErrBase}, {change(big, func(c *api.Cap) { c.Len-- }), api.ErrBase},
	} {
		hd, room, err := Chunk(h, x.c)
		if err != x.err || err != 0 && (hd != api.Head{} || room != 0) {
			t.Error(i, hd, room, err)
		}
		if n, err := Usable(h, x.c); err != x.err || n != room {
			t.Error(i, n, err)
		}
		if x.err != 0 && Free(h, 0, x.c) != x.err {
			t.Error(i, "Free")
		}
	}
	if h.Q.Len() != 0 || h.P.Count() != 0 || h.S.Given != 0 {
		t.Error("changed")
	}
	for _, thread := range []int{-1, 2, math.MaxInt} {
		if Free(h, thread, c) != api.ErrInput || Free(h, thread, api.Cap{}) != api.ErrInput {
			t.Error(thread)
		}
	}
}

func TestHeaders(t *testing.T) {
	h := made(t)
	c := get(t, h, 40)
	had, _ := h.M.Read(of(c.Base-16, 16))
	for _, x := range []struct {
		head api.Head
		err  api.Errno
	}{{api.Head{State: api.StateFree, Class: 2, Tag: c.Tag, Size: 40}, api.ErrState}, {api.Head{State: api.StateHeld, Class: 2, Tag: c.Tag, Size: 40}, api.ErrState}, {api.Head{State: api.StateHeld, Class: 2, Size: 41}, api.ErrState}, {api.Head{State: api.StateLive, Class: 2, Size: 41}, api.ErrBase}} {
		h.K.Put(c.Base, x.head)
		if _, _, err := Chunk(h, c); err != x.err || Free(h, 0, c) != x.err {
			t.Error(x, err)
		}
	}
	h.M.Write(c.Base-16, had)
	h.M.Write(c.Base-12, []byte{41})
	if _, _, err := Chunk(h, c); err != api.ErrCorrupt || Free(h, 0, c) != api.ErrCorrupt {
		t.Error(err)
	}
	h.M.Write(c.Base-16, had)
	if Free(h, 0, c) != 0 {
		t.Error("mended")
	}
	// no chunk is made there, though its page is mapped
	odd := api.Cap{Base: h.Small.Region(2).At(19), Len: 16, Perm: 31, Tag: 3, Valid: true}
	odd.Cur = odd.Base
	h.M.Map(odd.Base/256, 1)
	h.M.SetTag(of(odd.Base, 16), 3)
	if _, _, err := Chunk(h, odd); err != api.ErrCorrupt {
		t.Error("not made", err)
	}
}

func TestFree(t *testing.T) {
	h := made(t)
	for _, n := range []int{40, 2000} {
		c, d := get(t, h, n), get(t, h, n)
		part, _ := derive.Bounds(d, 8)
		room, k, _ := h.Find(d.Base)
		h.Put(0, d)
		s := h.S
		if Free(h, 1, d) != 0 {
			t.Error(n)
		}
		now := h.E.Now()
		if hd, err := h.K.Get(d.Base); hd != (api.Head{State: api.StateHeld, Class: k, Tag: d.Tag, Size: n, Epoch: now}) || err != 0 {
			t.Error(hd, err)
		}
		tag := h.M.Tag(d.Base)
		a, b := h.K.Beside(d.Base, room)
		if !h.M.Tagged(of(d.Base, room), tag) || tag < 1 || tag == d.Tag || tag == a || tag == b {
			t.Error("another tag", tag, d.Tag, a, b)
		}
		l := h.Q.List()
		if !h.P.Whole(of(d.Base, room)) || l[len(l)-1] != (api.Item{At: d.Base, Room: room, Class: k, Thread: 1, Epoch: now}) {
			t.Error("waits", l)
		}
		if h.S.Given != s.Given+1 || h.S.Live != s.Live-n || h.S.Got != s.Got {
			t.Error(h.S)
		}
		again, _ := h.Get(0)
		for _, x := range []api.Cap{d, part, again} {
			if _, err := h.Read(x, 1); err != api.ErrDead || Free(h, 0, x) != api.ErrDead {
				t.Error("no use of what was given back", x)
			}
		}
		if _, err := h.Read(c, n); err != 0 {
			t.Error("others are as they were", err)
		}
		oneEpoch(h)
	}
}

func TestWaits(t *testing.T) {
	h := made(t)
	var all []api.Cap
	for range 40 {
		all = append(all, get(t, h, 16))
	}
	for _, c := range all {
		if Free(h, 0, c) != 0 {
			t.Error(c)
		}
	}
	if _, err := h.Malloc(0, 16); err != api.ErrMemory {
		t.Error("got before an epoch", err)
	}
	h.Start()
	if _, err := h.Malloc(0, 16); err != api.ErrMemory {
		t.Error("got in an epoch", err)
	}
	h.Step(math.MaxInt)
	if c, err := h.Malloc(0, 16); err != 0 || h.Q.Len() != 0 {
		t.Error(c, err)
	}
}

// What is given back while an epoch goes on waits for the one behind it.
func TestInAnEpoch(t *testing.T) {
	h := made(t)
	a, b := get(t, h, 16), get(t, h, 16)
	Free(h, 0, a)
	h.Start()
	Free(h, 0, b)
	h.Step(math.MaxInt)
	if l := h.Q.List(); len(l) != 1 || l[0].At != b.Base || l[0].Epoch != 1 {
		t.Error(l)
	}
	oneEpoch(h)
	if h.Q.Len() != 0 {
		t.Error(h.Q.List())
	}
}

func TestAllBack(t *testing.T) {
	h := made(t)
	var all []api.Cap
	for i := range 60 {
		if c, err := h.Malloc(0, 1+i*37%1500); err == 0 {
			all = append(all, c)
		}
	}
	for i, c := range all {
		if Free(h, i%2, c) != 0 {
			t.Error(i)
		}
	}
	oneEpoch(h)
	h.Release()
	if !mem.Same(h.M, mem.New(1)) || h.P.Count() != 0 || h.S.Live != 0 || h.S.Ended != len(all) || len(all) < 30 || !slices.Equal(h.Small.Region(0).List(), nil) {
		t.Error("not as a new one", h.M.List())
	}
}

func TestNone(t *testing.T) {
	_, _, err := Chunk(nil, api.Cap{})
	n, err2 := Usable(nil, api.Cap{})
	if err != api.ErrInput || n != 0 || err2 != api.ErrInput || Free(nil, 0, api.Cap{}) != api.ErrInput {
		t.Error("of none")
	}
}
