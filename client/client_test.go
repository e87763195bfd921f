package client

import (
	"bytes"
	"cubbyhole/api"
	"cubbyhole/heap"
	"math"
	"testing"
)

func made(t *testing.T) *heap.Heap {
	t.Helper()
	h, err := heap.New(api.Conf{Pages: 160, Region: 5, Large: 60, Threads: 2, Cache: 4, Batch: 4, Shelf: 2, Regs: 8, Most: 4000, Fill: 9, Key: 7}, nil)
	if err != 0 {
		t.Fatal(err)
	}
	return h
}

// play does things, and checks what each tells.
func play(t *testing.T, h *heap.Heap, l []api.Op, want []api.Result) {
	t.Helper()
	for i, r := range Run(h, l) {
		if r.Err != want[i].Err || r.N != want[i].N || !bytes.Equal(r.Data, want[i].Data) {
			t.Error(i, l[i], r, want[i])
		}
	}
}

var fine = api.Result{}

func bad(err api.Errno) api.Result { return api.Result{Err: err} }

func told(s string) api.Result { return api.Result{Data: []byte(s)} }

// Promise 44.1.
func TestDo(t *testing.T) {
	h := made(t)
	play(t, h, []api.Op{
		{Kind: api.OpMalloc, A: 1, N: 5}, {Kind: api.OpRead, B: 1, N: 5}, {Kind: api.OpRead, B: 1, N: 6}, {Kind: api.OpUsable, B: 1},
		{Kind: api.OpCalloc, Thread: 1, A: 2, N: 3, M: 7}, {Kind: api.OpRead, B: 2, N: 21}, {Kind: api.OpRead, B: 2, N: 22}, {Kind: api.OpUsable, B: 2},
		{Kind: api.OpAligned, A: 3, M: 64, N: 100}, {Kind: api.OpUsable, B: 3}, {Kind: api.OpWrite, B: 1, Data: []byte("abcde")}, {Kind: api.OpWrite, B: 1, Data: []byte("abcdef")},
		{Kind: api.OpMove, A: 4, B: 1, N: 2}, {Kind: api.OpRead, B: 4, N: 3}, {Kind: api.OpBounds, A: 5, B: 4, N: 2}, {Kind: api.OpRead, B: 5, N: 2}, {Kind: api.OpRead, B: 5, N: 3},
		{Kind: api.OpDrop, A: 5, B: 5, N: api.PermLoad}, {Kind: api.OpRead, B: 5, N: 2}, {Kind: api.OpCopy, A: 6, B: 1}, {Kind: api.OpRead, B: 6, N: 1},
		{Kind: api.OpStore, B: 3, V: 1}, {Kind: api.OpLoad, A: 7, B: 3}, {Kind: api.OpRead, B: 7, N: 2}, {Kind: api.OpRead, B: 3, N: 2},
		{Kind: api.OpRealloc, A: 0, B: 1, N: 3}, {Kind: api.OpRead, B: 0, N: 3}, {Kind: api.OpRead, B: 1, N: 1}, {Kind: api.OpRead, B: 7, N: 1}, {Kind: api.OpLoad, A: 7, B: 3},
		{Kind: api.OpFree, Thread: 1, B: 0}, {Kind: api.OpFree, B: 0}, {Kind: api.OpRead, B: 0, N: 0},
		{Kind: api.OpClear, A: 2}, {Kind: api.OpRead, B: 2, N: 1}, {Kind: api.OpCopy, A: 3, B: 2}, {Kind: api.OpRead, B: 3, N: 1},
	}, []api.Result{
		fine, told("\x09\x09\x09\x09\x09"), bad(api.ErrBounds), {N: 16},
		fine, told(string(make([]byte, 21))), bad(api.ErrBounds), {N: 32},
		fine, {N: 192}, fine, bad(api.ErrBounds),
		fine, told("cde"), fine, told("cd"), bad(api.ErrBounds),
		fine, bad(api.ErrPerm), fine, told("a"),
		fine, fine, told("ab"), told("\x00\x00"),
		fine, told("abc"), bad(api.ErrDead), bad(api.ErrDead), fine,
		fine, bad(api.ErrDead), bad(api.ErrDead),
		fine, bad(api.ErrDead), fine, bad(api.ErrDead),
	})
	if h.S.Got != 4 || h.S.Given != 2 || h.Q.List()[1].Thread != 1 {
		t.Error(h.S, h.Q.List())
	}
	if c, _ := h.R.Get(7); c.Valid {
		t.Error("none is loaded", c)
	}
}

func TestNothingIsTold(t *testing.T) {
	h := made(t)
	play(t, h, []api.Op{{Kind: api.OpStep, N: 5}, {Kind: api.OpStart}, {Kind: api.OpStart}, {Kind: api.OpStep, N: 5}, {Kind: api.OpStep, N: -5}, {Kind: api.OpRelease}}, []api.Result{fine, fine, fine, fine, fine, fine})
	if h.E.Now() != 1 || h.W.Done() != 6 {
		t.Error(h.E, h.W.Done())
	}
	Do(h, api.Op{Kind: api.OpMalloc, N: 1})
	Do(h, api.Op{Kind: api.OpFree})
	Do(h, api.Op{Kind: api.OpStep, N: 1000})
	Do(h, api.Op{Kind: api.OpStart})
	Do(h, api.Op{Kind: api.OpStep, N: 1000})
	if r := Do(h, api.Op{Kind: api.OpRelease}); r.N != 0 || h.M.Used() != 0 {
		t.Error("released", h.M.List())
	}
}

func TestErrors(t *testing.T) {
	h := made(t)
	play(t, h, []api.Op{
		{Kind: 0}, {Kind: 19}, {Kind: -1}, {Kind: math.MaxInt}, {Kind: 19, A: 99},
		{Kind: api.OpMalloc, A: 8, N: 0}, {Kind: api.OpMalloc, A: -1, N: 1}, {Kind: api.OpMalloc, A: 0, B: 99, V: 99, N: 1}, {Kind: api.OpCalloc, A: 8, N: 1, M: 1}, {Kind: api.OpAligned, A: 8, M: 1, N: 1},
		{Kind: api.OpRealloc, A: 8, B: 0, N: 1}, {Kind: api.OpRealloc, A: 0, B: 8, N: 1}, {Kind: api.OpFree, B: 8}, {Kind: api.OpFree, A: 99, V: 99, B: 0, Thread: 9}, {Kind: api.OpUsable, B: -1},
		{Kind: api.OpBounds, A: 8, N: 1}, {Kind: api.OpBounds, B: 8, N: 1}, {Kind: api.OpDrop, A: 8}, {Kind: api.OpDrop, B: 8}, {Kind: api.OpMove, A: 8}, {Kind: api.OpMove, B: 8}, {Kind: api.OpCopy, A: 8}, {Kind: api.OpCopy, B: 8},
		{Kind: api.OpRead, B: 8, N: 4097}, {Kind: api.OpRead, B: 0, N: 4097}, {Kind: api.OpRead, B: 1, N: 4097}, {Kind: api.OpRead, B: 0, N: 4096}, {Kind: api.OpRead, B: 0, N: -1}, {Kind: api.OpWrite, B: 8, Data: make([]byte, 4097)}, {Kind: api.OpWrite, B: 0, Data: make([]byte, 4097)}, {Kind: api.OpWrite, B: 0, Data: make([]byte, 4096)},
		{Kind: api.OpLoad, A: 8}, {Kind: api.OpLoad, B: 8}, {Kind: api.OpStore, B: 8}, {Kind: api.OpStore, V: 8}, {Kind: api.OpStore, A: 99, B: 1}, {Kind: api.OpClear, A: 8}, {Kind: api.OpClear, A: 1, B: 99, V: 99},
		{Kind: api.OpMalloc, Thread: 2, N: 1}, {Kind: api.OpMalloc, N: 4001}, {Kind: api.OpCalloc, N: 0, M: 5}, {Kind: api.OpAligned, M: 3, N: 5}, {Kind: api.OpRealloc, N: 0}, {Kind: api.OpRealloc, B: 1, N: 1},
		{Kind: api.OpBounds, B: 1, N: 0}, {Kind: api.OpBounds, N: 0}, {Kind: api.OpDrop, N: 32}, {Kind: api.OpMove, N: api.MaxOff + 1}, {Kind: api.OpLoad}, {Kind: api.OpStore}, {Kind: api.OpStart, A: 99, B: 99, V: 99},
	}, []api.Result{
		bad(1), bad(1), bad(1), bad(1), bad(1),
		bad(15), bad(15), fine, bad(15), bad(15),
		bad(15), bad(15), bad(15), bad(1), bad(15),
		bad(15), bad(15), bad(15), bad(15), bad(15), bad(15), bad(15), bad(15),
		bad(15), bad(4), bad(4), bad(9), bad(9), bad(15), bad(4), bad(9),
		bad(15), bad(15), bad(15), bad(15), bad(7), bad(15), fine,
		bad(1), bad(4), bad(1), bad(1), bad(1), bad(7),
		bad(7), bad(1), bad(1), bad(9), bad(9), bad(9), fine,
	})
	if r := Do(nil, api.Op{Kind: api.OpStart}); r.Err != api.ErrInput {
		t.Error(r)
	}
}

func TestARegisterStaysWithAnError(t *testing.T) {
	h := made(t)
	Do(h, api.Op{Kind: api.OpMalloc, A: 0, N: 5})
	had, _ := h.Get(0)
	for _, o := range []api.Op{{Kind: api.OpMalloc}, {Kind: api.OpBounds, N: 9}, {Kind: api.OpDrop, N: 99}, {Kind: api.OpLoad}, {Kind: api.OpRealloc, N: 9999}, {Kind: api.OpBounds, B: 1, N: 1}} {
		r := Do(h, o)
		if now, _ := h.Get(0); now != had || r.Err == 0 {
			t.Error(o, r, now)
		}
	}
}

func TestRun(t *testing.T) {
	h := made(t)
	l := make([]api.Op, api.MaxOps+1)
	for i := range l {
		l[i] = api.Op{Kind: api.OpClear}
	}
	l[500] = api.Op{Kind: api.OpMalloc, N: 1}
	if n := len(Run(h, l)); n != api.MaxOps || h.S.Got != 0 {
		t.Error(n)
	}
	if len(Run(h, nil)) != 0 || len(Run(h, l[499:])) != 2 || h.S.Got != 1 {
		t.Error("few")
	}
	if r := Run(nil, l[:2]); len(r) != 2 || r[0].Err != api.ErrInput || r[1].Err != api.ErrInput {
		t.Error(r)
	}
}
