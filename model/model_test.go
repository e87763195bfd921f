package model

import (
	"bytes"
	"cubbyhole/api"
	"cubbyhole/client"
	"cubbyhole/heap"
	"math"
	"testing"
)

func good() api.Conf {
	return api.Conf{Pages: 160, Region: 5, Large: 60, Threads: 2, Cache: 4, Batch: 4, Shelf: 2, Regs: 8, Most: 4000, Fill: 9, Key: 7}
}

func bad(err api.Errno) api.Result { return api.Result{Err: err} }

func told(s string) api.Result { return api.Result{Data: []byte(s)} }

func same(a, b api.Result) bool { return a.Err == b.Err && a.N == b.N && bytes.Equal(a.Data, b.Data) }

// Promise 45.1.
func TestNew(t *testing.T) {
	for n, want := range map[int]int{0: 0, -1: 0, 1: 1, 64: 64, 65: 64, math.MaxInt: 64} {
		if m := New(api.Conf{Regs: n}); m.Regs() != want || m.Live() != 0 || m.Get(0) != (Ref{}) {
			t.Error(n, m.Regs())
		}
	}
	m := New(good())
	for _, r := range []int{-1, 8, math.MaxInt, math.MinInt} {
		if m.Get(r) != (Ref{}) {
			t.Error(r)
		}
	}
}

func TestRefs(t *testing.T) {
	m := New(good())
	for i, x := range []struct {
		o    api.Op
		r    int
		want Ref
		live int
	}{
		{api.Op{Kind: api.OpMalloc, A: 1, N: 40}, 1, Ref{1, 0, 40, 0, 31}, 1}, {api.Op{Kind: api.OpMove, A: 2, B: 1, N: -7}, 2, Ref{1, 0, 40, -7, 31}, 1}, {api.Op{Kind: api.OpMove, A: 2, B: 2, N: 17}, 2, Ref{1, 0, 40, 17, 31}, 1},
		{api.Op{Kind: api.OpBounds, A: 2, B: 2, N: 23}, 2, Ref{1, 17, 23, 0, 31}, 1}, {api.Op{Kind: api.OpMove, A: 2, B: 2, N: 3}, 2, Ref{1, 17, 23, 3, 31}, 1}, {api.Op{Kind: api.OpBounds, A: 3, B: 2, N: 5}, 3, Ref{1, 20, 5, 0, 31}, 1},
		{api.Op{Kind: api.OpDrop, A: 3, B: 3, N: 18}, 3, Ref{1, 20, 5, 0, 13}, 1}, {api.Op{Kind: api.OpCopy, A: 4, B: 3}, 4, Ref{1, 20, 5, 0, 13}, 1}, {api.Op{Kind: api.OpCalloc, A: 5, N: 3, M: 4}, 5, Ref{2, 0, 12, 0, 31}, 2}, {api.Op{Kind: api.OpAligned, A: 6, N: 3, M: 4}, 6, Ref{3, 0, 3, 0, 31}, 3},
		{api.Op{Kind: api.OpDrop, A: 1, B: 1, N: 15}, 1, Ref{1, 0, 40, 0, 16}, 3}, {api.Op{Kind: api.OpRealloc, A: 0, B: 1, N: 7}, 0, Ref{4, 0, 7, 0, 16}, 3}, {api.Op{Kind: api.OpStart}, 1, Ref{}, 3}, {api.Op{Kind: api.OpStep, N: 5}, 4, Ref{}, 3},
		{api.Op{Kind: api.OpClear, A: 6}, 6, Ref{}, 3}, {api.Op{Kind: api.OpFree, B: 5}, 5, Ref{}, 2}, {api.Op{Kind: api.OpMalloc, A: 5, N: 1}, 5, Ref{5, 0, 1, 0, 31}, 3},
	} {
		if r := m.Do(x.o, false); r.Err != 0 || m.Get(x.r) != x.want || m.Live() != x.live {
			t.Error(i, r, m.Get(x.r), m.Live())
		}
	}
}

func TestFull(t *testing.T) {
	m := New(good())
	m.Do(api.Op{Kind: api.OpMalloc, A: 1, N: 5}, false)
	for i, x := range []struct {
		o   api.Op
		err api.Errno
	}{
		{api.Op{Kind: api.OpMalloc, N: 5}, 13}, {api.Op{Kind: api.OpCalloc, N: 5, M: 5}, 13}, {api.Op{Kind: api.OpAligned, N: 5, M: 64}, 13}, {api.Op{Kind: api.OpRealloc, A: 1, B: 1, N: 5}, 13}, {api.Op{Kind: api.OpMalloc}, 1}, {api.Op{Kind: api.OpMalloc, N: 4001}, 4}, {api.Op{Kind: api.OpRealloc, B: 2, N: 1}, 7},
		{api.Op{Kind: api.OpRead, B: 1, N: 5}, 0}, {api.Op{Kind: api.OpCopy, A: 2, B: 1}, 0}, {api.Op{Kind: api.OpStart}, 0}, {api.Op{Kind: api.OpUsable, B: 1}, 0},
	} {
		if r := m.Do(x.o, true); r.Err != x.err {
			t.Error(i, r)
		}
	}
	if m.Get(1) != (Ref{1, 0, 5, 0, 31}) || m.Live() != 1 {
		t.Error("it is as it was", m.Get(1))
	}
}

func TestRooms(t *testing.T) {
	m := New(good())
	for i, x := range []struct {
		o    api.Op
		room int
	}{{api.Op{Kind: api.OpMalloc, N: 1}, 16}, {api.Op{Kind: api.OpMalloc, N: 129}, 160}, {api.Op{Kind: api.OpMalloc, N: 1024}, 1024}, {api.Op{Kind: api.OpMalloc, N: 1025}, 1264}, {api.Op{Kind: api.OpAligned, N: 1, M: 16}, 16}, {api.Op{Kind: api.OpAligned, N: 1, M: 32}, 224}, {api.Op{Kind: api.OpAligned, N: 300, M: 256}, 512}, {api.Op{Kind: api.OpCalloc, N: 100, M: 11}, 1264}} {
		m.Do(x.o, false)
		if r := m.Do(api.Op{Kind: api.OpUsable}, false); r.Err != 0 || r.N != x.room {
			t.Error(i, r)
		}
	}
}

func TestBytesAndKept(t *testing.T) {
	m := New(good())
	for i, x := range []struct {
		o    api.Op
		want api.Result
	}{
		{api.Op{Kind: api.OpMalloc, A: 1, N: 50}, api.Result{}}, {api.Op{Kind: api.OpRead, B: 1, N: 3}, told("\x09\x09\x09")}, {api.Op{Kind: api.OpCalloc, A: 2, N: 1, M: 16}, api.Result{}}, {api.Op{Kind: api.OpRead, B: 2, N: 2}, told("\x00\x00")}, {api.Op{Kind: api.OpRead, B: 2, N: 17}, bad(9)}, {api.Op{Kind: api.OpRead, B: 2, N: -1}, bad(9)}, {api.Op{Kind: api.OpRead, B: 2}, api.Result{}},
		{api.Op{Kind: api.OpStore, B: 1, V: 2}, api.Result{}}, {api.Op{Kind: api.OpRead, B: 1, N: 17}, told(string(make([]byte, 16)) + "\x09")}, {api.Op{Kind: api.OpLoad, A: 3, B: 1}, api.Result{}}, {api.Op{Kind: api.OpWrite, B: 3, Data: []byte("x")}, api.Result{}}, {api.Op{Kind: api.OpRead, B: 2, N: 2}, told("x\x00")},
		{api.Op{Kind: api.OpMove, A: 4, B: 1, N: 16}, api.Result{}}, {api.Op{Kind: api.OpStore, B: 4, V: 1}, api.Result{}}, {api.Op{Kind: api.OpMove, A: 4, B: 1, N: 15}, api.Result{}}, {api.Op{Kind: api.OpStore, B: 4, V: 1}, bad(10)}, {api.Op{Kind: api.OpLoad, A: 5, B: 4}, bad(10)}, {api.Op{Kind: api.OpMove, A: 4, B: 1, N: 35}, api.Result{}}, {api.Op{Kind: api.OpLoad, A: 5, B: 4}, bad(9)},
		{api.Op{Kind: api.OpMove, A: 4, B: 1, N: 32}, api.Result{}}, {api.Op{Kind: api.OpStore, B: 4, V: 2}, api.Result{}},
		// of 47 bytes two granules are whole; the second one has the old chunk's capability
		{api.Op{Kind: api.OpRealloc, A: 1, B: 1, N: 47}, api.Result{}}, {api.Op{Kind: api.OpLoad, A: 5, B: 1}, api.Result{}}, {api.Op{Kind: api.OpRead, B: 5, N: 1}, told("x")}, {api.Op{Kind: api.OpMove, A: 4, B: 1, N: 16}, api.Result{}}, {api.Op{Kind: api.OpLoad, A: 6, B: 4}, api.Result{}}, {api.Op{Kind: api.OpRead, B: 6}, bad(7)},
		{api.Op{Kind: api.OpRealloc, A: 1, B: 1, N: 60}, api.Result{}}, {api.Op{Kind: api.OpMove, A: 4, B: 1, N: 32}, api.Result{}}, {api.Op{Kind: api.OpLoad, A: 6, B: 4}, api.Result{}}, {api.Op{Kind: api.OpRead, B: 6}, bad(7)}, {api.Op{Kind: api.OpRead, B: 4, N: 17}, told(string(make([]byte, 15)) + "\x09\x09")},
		// written over
		{api.Op{Kind: api.OpMove, A: 4, B: 1, N: 15}, api.Result{}}, {api.Op{Kind: api.OpWrite, B: 4}, api.Result{}}, {api.Op{Kind: api.OpLoad, A: 5, B: 1}, api.Result{}}, {api.Op{Kind: api.OpRead, B: 5, N: 1}, told("x")}, {api.Op{Kind: api.OpWrite, B: 4, Data: []byte("y")}, api.Result{}}, {api.Op{Kind: api.OpLoad, A: 5, B: 1}, api.Result{}}, {api.Op{Kind: api.OpRead, B: 5}, bad(7)}, {api.Op{Kind: api.OpRead, B: 1, N: 17}, told(string(make([]byte, 15)) + "y\x00")},
		// kept no more, when its chunk is not live
		{api.Op{Kind: api.OpStore, B: 1, V: 2}, api.Result{}}, {api.Op{Kind: api.OpFree, B: 2}, api.Result{}}, {api.Op{Kind: api.OpLoad, A: 5, B: 1}, api.Result{}}, {api.Op{Kind: api.OpRead, B: 5}, bad(7)}, {api.Op{Kind: api.OpFree, B: 2}, bad(7)}, {api.Op{Kind: api.OpUsable, B: 2}, bad(7)},
		{api.Op{Kind: api.OpFree, B: 1, Thread: 2}, bad(1)}, {api.Op{Kind: api.OpFree, B: 4}, bad(14)}, {api.Op{Kind: api.OpBounds, A: 4, B: 1, N: 59}, api.Result{}}, {api.Op{Kind: api.OpFree, B: 4}, bad(14)}, {api.Op{Kind: api.OpDrop, A: 4, B: 1, N: 16}, api.Result{}}, {api.Op{Kind: api.OpFree, B: 4}, bad(8)}, {api.Op{Kind: 19}, bad(1)}, {api.Op{Kind: api.OpFree, B: 8}, bad(15)}, {api.Op{Kind: api.OpWrite, Data: make([]byte, 4097)}, bad(4)},
	} {
		if r := m.Do(x.o, false); !same(r, x.want) {
			t.Error(i, x.o, r, x.want)
		}
	}
}

func TestEdges(t *testing.T) {
	m := New(good())
	for i, x := range []struct {
		o   api.Op
		err api.Errno
	}{
		{api.Op{Kind: api.OpCalloc, N: 1 << 32, M: 1 << 32}, api.ErrBig}, {api.Op{Kind: api.OpCalloc, N: math.MaxInt, M: math.MaxInt}, api.ErrBig}, {api.Op{Kind: api.OpCalloc, N: 2, M: 2000}, 0}, {api.Op{Kind: api.OpCalloc, N: 2, M: 2001}, api.ErrBig},
		{api.Op{Kind: api.OpMove, N: api.MaxOff}, 0}, {api.Op{Kind: api.OpMove, N: api.MaxOff + 1}, api.ErrBounds}, {api.Op{Kind: api.OpMove, N: -api.MaxOff}, 0}, {api.Op{Kind: api.OpMove, N: -api.MaxOff - 1}, api.ErrBounds}, {api.Op{Kind: api.OpMove}, 0},
		{api.Op{Kind: api.OpRealloc, N: 4001}, api.ErrBig}, {api.Op{Kind: api.OpRealloc, N: 4000}, 0}, {api.Op{Kind: api.OpRealloc, N: 1}, 0}, {api.Op{Kind: api.OpRealloc, N: 0}, api.ErrInput},
	} {
		if r := m.Do(x.o, false); r.Err != x.err {
			t.Error(i, x.o, r)
		}
	}
}

func TestWhatIsTheCallers(t *testing.T) {
	m := New(good())
	b := []byte("abc")
	m.Do(api.Op{Kind: api.OpMalloc, N: 3}, false)
	m.Do(api.Op{Kind: api.OpWrite, Data: b}, false)
	b[0] = 'x'
	r := m.Do(api.Op{Kind: api.OpRead, N: 3}, false)
	if string(r.Data) != "abc" {
		t.Error(r)
	}
	r.Data[0] = 'x'
	if r = m.Do(api.Op{Kind: api.OpRead, N: 3}, false); string(r.Data) != "abc" {
		t.Error(r)
	}
}

// What the model tells is what client's Do tells, of whatever is done.
func TestAsClient(t *testing.T) {
	seed := uint64(3)
	below := func(n int) int {
		seed = seed*6364136223846793005 + 1442695040888963407
		return int(seed>>33) % n
	}
	sizes := []int{0, -1, 1, 5, 16, 17, 32, 40, 100, 500, 1024, 1025, 2000, 4000, 4001, math.MaxInt, math.MinInt}
	for round := range 20 {
		c := good()
		if round%2 == 1 {
			c.Large, c.Pages = round%4/3*20, 60
		}
		h, _ := heap.New(c, nil)
		m := New(c)
		for i := range 3000 {
			o := api.Op{Kind: below(20), Thread: below(3), A: below(8), B: below(8), V: below(8), N: sizes[below(len(sizes))], M: 1 << below(10), Data: make([]byte, below(40))}
			switch {
			case below(50) == 0:
				o.A, o.B, o.V = below(11)-1, below(11)-1, below(11)-1
			case o.Kind == api.OpMove:
				o.N = below(100) - 20
			case o.Kind == api.OpMalloc:
				o.N = below(150)
			case o.Kind == api.OpDrop:
				o.N = 1 << below(7) / 4
			}
			for j := range o.Data {
				o.Data[j] = byte(below(256))
			}
			want := client.Do(h, o)
			if r := m.Do(o, want.Err == api.ErrMemory); !same(r, want) {
				t.Fatal(round, i, o, r, want)
			}
		}
	}
}

func TestNone(t *testing.T) {
	var m *Model
	if m.Get(0) != (Ref{}) || m.Live() != 0 || m.Regs() != 0 || !same(m.Do(api.Op{Kind: api.OpStart}, false), bad(1)) {
		t.Error("of none")
	}
	zero := New(api.Conf{Regs: 1, Threads: 1, Most: math.MaxInt})
	if r := zero.Do(api.Op{Kind: api.OpMalloc, N: math.MaxInt}, false); r.Err != api.ErrBig {
		t.Error(r)
	}
}
