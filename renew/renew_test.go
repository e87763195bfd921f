package renew

import (
	"bytes"
	"cubbyhole/api"
	"cubbyhole/code"
	"cubbyhole/derive"
	"cubbyhole/give"
	"cubbyhole/heap"
	"math"
	"testing"
)

func made(t *testing.T) *heap.Heap {
	t.Helper()
	h, err := heap.New(api.Conf{Pages: 160, Region: 5, Large: 60, Threads: 2, Cache: 4, Batch: 4, Shelf: 2, Regs: 8, Most: 4000, Fill: 9, Key: 7}, nil)
	if err != 0 {
		t.Fatal(err)
	}
	return h
}

func get(t *testing.T, h *heap.Heap, n int) api.Cap {
	t.Helper()
	c, err := h.Malloc(0, n)
	if err != 0 {
		t.Fatal(err)
	}
	return c
}

// text is so many bytes, none of them Fill's.
func text(n int) []byte {
	b := make([]byte, n)
	for i := range b {
		b[i] = byte('a' + i%26)
	}
	return b
}

// Promise 42.1.
func TestBytes(t *testing.T) {
	h := made(t)
	for _, x := range [][2]int{{40, 20}, {20, 40}, {40, 40}, {40, 1}, {1, 40}, {1000, 3000}, {3000, 1000}, {3000, 3500}, {33, 34}} {
		c := get(t, h, x[0])
		h.Write(c, text(x[0]))
		s := h.S
		to, err := Realloc(h, 1, c, x[1])
		if err != 0 || to.Base == c.Base || to.Len != x[1] || to.Cur != to.Base || to.Perm != api.PermAll || h.Good(to) != to {
			t.Fatal(x, to, err)
		}
		want := append(text(min(x[0], x[1])), bytes.Repeat([]byte{9}, max(x[1]-x[0], 0))...)
		if b, err := h.Read(to, x[1]); err != 0 || !bytes.Equal(b, want) {
			t.Error(x, b, err)
		}
		if _, err := h.Read(c, 1); err != api.ErrDead || !h.Q.Has(c.Base) || h.S.Got != s.Got+1 || h.S.Given != s.Given+1 || h.S.Live != s.Live+x[1]-x[0] {
			t.Error("the old one", x, err, h.S)
		}
		if i := h.Q.List(); i[len(i)-1].Thread != 1 {
			t.Error(i)
		}
		if hd, _, err := give.Chunk(h, to); hd.Size != x[1] || err != 0 {
			t.Error(hd, err)
		}
		h.Start()
		h.Step(math.MaxInt)
		give.Free(h, 0, to)
		h.Start()
		h.Step(math.MaxInt)
	}
}

func TestPermissions(t *testing.T) {
	h := made(t)
	c := get(t, h, 40)
	h.Write(c, text(40))
	free, _ := derive.Drop(c, api.PermAll-api.PermFree)
	to, err := Realloc(h, 0, free, 20)
	if err != 0 || to.Perm != api.PermFree {
		t.Error(to, err)
	}
	if b, _ := h.M.Read(api.Span{Base: to.Base, Len: 20}); !bytes.Equal(b, text(20)) {
		t.Error("copied by the allocator", b)
	}
}

func TestKept(t *testing.T) {
	h := made(t)
	c, other, gone := get(t, h, 72), get(t, h, 30), get(t, h, 30)
	at := func(c api.Cap, off int) api.Cap {
		c, _ = derive.Move(c, off)
		return c
	}
	h.Store(at(c, 0), other)
	h.Store(at(c, 16), gone)
	h.Store(at(c, 32), c)
	h.Store(at(c, 48), other)
	h.Write(at(c, 64), []byte("12345678"))
	give.Free(h, 0, gone)
	to, err := Realloc(h, 0, c, 63) // of the fourth granule one byte is missing
	if err != 0 {
		t.Fatal(err)
	}
	if v, err := h.Load(at(to, 0)); v != other || err != 0 {
		t.Error(v, err)
	}
	for _, off := range []int{16, 32} { // one that is not good; one for the old chunk, that is none now
		if v, err := h.Load(at(to, off)); v != (api.Cap{}) || err != 0 {
			t.Error(off, v, err)
		}
	}
	if _, ok := h.M.Kept(to.Base/16 + 1); ok {
		t.Error("what is not good is not kept")
	}
	if _, ok := h.M.Kept(to.Base/16 + 3); ok {
		t.Error("not a whole granule")
	}
	if b, err := h.Read(to, 63); err != 0 || !bytes.Equal(b, make([]byte, 63)) {
		t.Error("noughts, apart", b, err)
	}
	h.M.Keep(to.Base+16, []byte("none's sixteen !"))
	to, _ = Realloc(h, 0, to, 64)
	if h.M.Next(to.Base/16) != to.Base/16 || h.M.Next(to.Base/16+1) == to.Base/16+1 {
		t.Error("none's bytes")
	}
	if k, ok := h.M.Kept(to.Base / 16); !ok || !bytes.Equal(k, code.Bytes(other)) {
		t.Error(k)
	}
}

func TestKeptBehind(t *testing.T) {
	h := made(t)
	c, other := get(t, h, 64), get(t, h, 30)
	for _, off := range []int{16, 32} {
		at, _ := derive.Move(c, off)
		h.Store(at, other)
	}
	// just two granules: the one behind goes
	to, err := Realloc(h, 0, c, 32)
	if err != 0 || h.M.Caps() != 3 {
		t.Fatal(err, h.M.Caps())
	}
	at, _ := derive.Move(to, 16)
	if v, err := h.Load(at); v != other || err != 0 {
		t.Error(v, err)
	}
	if v, err := h.Load(to); v != (api.Cap{}) || err != 0 {
		t.Error(v, err)
	}
	if to, err = Realloc(h, 0, to, 4000); err != 0 || to.Len != 4000 {
		t.Error("as many as there may be", err)
	}
}

func TestErrors(t *testing.T) {
	h := made(t)
	c := get(t, h, 40)
	part, _ := derive.Bounds(c, 39)
	weak, _ := derive.Drop(c, api.PermFree)
	moved, _ := derive.Move(c, 1)
	for i, x := range []struct {
		thread int
		c      api.Cap
		n      int
		err    api.Errno
	}{
		{-1, c, 5, api.ErrInput}, {2, c, 5, api.ErrInput}, {0, c, 0, api.ErrInput}, {0, c, -1, api.ErrInput}, {2, c, 4001, api.ErrInput}, {0, api.Cap{}, 0, api.ErrInput}, {0, c, 4001, api.ErrBig}, {0, api.Cap{}, 4001, api.ErrBig}, {0, c, math.MaxInt, api.ErrBig}, {0, c, math.MinInt, api.ErrInput},
		{0, api.Cap{}, 5, api.ErrDead}, {0, weak, 5, api.ErrPerm}, {0, part, 5, api.ErrBase}, {0, moved, 5, api.ErrBase},
	} {
		if to, err := Realloc(h, x.thread, x.c, x.n); to != (api.Cap{}) || err != x.err {
			t.Error(i, to, err)
		}
	}
	if h.S.Got != 1 || h.Q.Len() != 0 || h.D.Next(0) != 0 {
		t.Error("changed", h.S)
	}
	if to, err := Realloc(nil, 0, c, 5); to != (api.Cap{}) || err != api.ErrInput {
		t.Error(to, err)
	}
}

func TestNoMemory(t *testing.T) {
	h := made(t)
	c := get(t, h, 1024)
	h.Write(c, text(1024))
	if to, err := Realloc(h, 0, c, 1000); to != (api.Cap{}) || err != api.ErrMemory {
		t.Error(to, err)
	}
	if b, err := h.Read(c, 1024); err != 0 || !bytes.Equal(b, text(1024)) || h.Q.Len() != 0 {
		t.Error("as it was", err)
	}
	if _, err := Realloc(h, 0, c, 1025); err != 0 {
		t.Error(err)
	}
}
