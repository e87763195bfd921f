package heap

import (
	"bytes"
	"cubbyhole/api"
	"cubbyhole/capa"
	"cubbyhole/class"
	"cubbyhole/mem"
	"cubbyhole/stat"
	"math"
	"slices"
	"testing"
)

func of(base, n int) api.Span { return api.Span{Base: base, Len: n} }

func good() api.Conf {
	return api.Conf{Pages: 160, Region: 5, Large: 60, Threads: 2, Cache: 4, Batch: 4, Shelf: 2, Regs: 8, Most: 4000, Fill: 9, Key: 7}
}

func made(t *testing.T, change func(c *api.Conf)) *Heap {
	t.Helper()
	c := good()
	if change != nil {
		change(&c)
	}
	h, err := New(c, nil)
	if err != 0 {
		t.Fatal(err)
	}
	return h
}

// give lets a chunk wait, as one does that is given back now.
func give(t *testing.T, h *Heap, c api.Cap) {
	t.Helper()
	room, k, ok := h.Find(c.Base)
	had, err := h.K.Get(c.Base)
	if !ok || err != 0 {
		t.Fatal(c, ok, err)
	}
	if _, err := h.K.Retag(c.Base, room, c.Tag, 0); err != 0 {
		t.Fatal(err)
	}
	h.P.Put(of(c.Base, room))
	h.K.Put(c.Base, api.Head{State: api.StateHeld, Class: k, Tag: c.Tag, Size: had.Size, Epoch: h.E.Now()})
	h.Q.Put(api.Item{At: c.Base, Room: room, Class: k, Epoch: h.E.Now()})
	h.S = stat.Give(h.S, had.Size)
}

func oneEpoch(t *testing.T, h *Heap) {
	t.Helper()
	if err := h.Start(); err != 0 {
		t.Fatal(err)
	}
	if _, err := h.Step(math.MaxInt); err != 0 || h.E.On() {
		t.Fatal(err)
	}
}

// Promise 40.1.
func TestNew(t *testing.T) {
	h := made(t, nil)
	if h.C != good() || h.K.M != h.M || h.K.Key != 7 || h.R.Len() != 8 || h.M.Most() != 160 || h.M.Used() != 0 || h.P.Count() != 0 || h.Small.Threads() != 2 || h.Large.Widest() != 60 || h.Q.Len() != 0 || h.E.Now() != 0 || !h.W.Over() || h.S != (api.Stat{}) {
		t.Error("new")
	}
	if h := made(t, func(c *api.Conf) { c.Large = 0 }); h.Large != nil {
		t.Error("no pages for large ones")
	}
	c := good()
	c.Fill = 256
	if h, err := New(c, nil); h != nil || err != api.ErrInput {
		t.Error(err)
	}
	c.Fill, c.Large = 0, 925
	if h, err := New(c, nil); h != nil || err != api.ErrBig {
		t.Error(err)
	}
	l := []int{-1, -1, -1, 6}
	h, _ = New(good(), l)
	l[0] = 0
	if a, err := h.Malloc(0, 16); a.Base != 3*32+16 || a.Tag != 7 || err != 0 || h.D.Left() != 0 {
		t.Error("numbers that are drawn", a, err)
	}
}

func TestFind(t *testing.T) {
	h := made(t, nil)
	for k := range api.Classes {
		for _, place := range []int{0, class.Fit(k, 5) - 1} {
			at := k*5*256 + place*class.Block(k) + 16
			if room, got, ok := h.Find(at); room != class.Of(k) || got != k || !ok {
				t.Error(k, at, room, got, ok)
			}
		}
		for _, at := range []int{k * 5 * 256, k*5*256 + 17, k*5*256 + class.Fit(k, 5)*class.Block(k) + 16} {
			if at >= (k+1)*5*256 {
				continue
			}
			if room, got, ok := h.Find(at); room != 0 || got != 0 || ok {
				t.Error(at, room, got, ok)
			}
		}
	}
	first := 101*256 + 16
	if _, _, ok := h.Find(first); ok {
		t.Error("large ones that there are")
	}
	h.Malloc(0, 2000)
	if room, k, ok := h.Find(first); room != 2032 || k != api.LargeClass || !ok {
		t.Error(room, k, ok)
	}
	for _, at := range []int{first + 16, first - 16, 160*256 + 16, -1, math.MaxInt, math.MinInt, 0} {
		if room, k, ok := h.Find(at); room != 0 || k != 0 || ok {
			t.Error(at, room, k, ok)
		}
	}
}

// isNew checks a chunk that was got just now.
func isNew(t *testing.T, h *Heap, c api.Cap, n int, fill byte) {
	t.Helper()
	room, k, ok := h.Find(c.Base)
	hd, err := h.K.Get(c.Base)
	want := api.Cap{Base: c.Base, Len: n, Cur: c.Base, Perm: api.PermAll, Tag: hd.Tag, Valid: true}
	if !ok || room < n || err != 0 || c != want || hd != (api.Head{State: api.StateLive, Class: k, Tag: c.Tag, Size: n}) {
		t.Fatal(c, hd, room, k, ok, err)
	}
	b, err := h.M.Read(of(c.Base, room))
	if err != 0 || !bytes.Equal(b, bytes.Repeat([]byte{fill}, room)) || !h.M.Tagged(of(c.Base, room), c.Tag) || c.Tag < 1 || h.M.Tag(c.Base-16) != 0 || h.Good(c) != c {
		t.Fatal(c, "bytes", err)
	}
	if a, b := h.K.Beside(c.Base, room); a == c.Tag || b == c.Tag {
		t.Fatal(c, "the tag of one beside", a, b)
	}
}

func TestMalloc(t *testing.T) {
	h := made(t, nil)
	var all []api.Cap
	for i, n := range []int{1, 5, 16, 17, 100, 129, 1024, 1025, 2000, 4000, 3, 3, 3, 3, 3} {
		c, err := h.Malloc(i%2, n)
		if err != 0 {
			t.Fatal(n, err)
		}
		isNew(t, h, c, n, 9)
		if _, k, _ := h.Find(c.Base); n <= 1024 && k != class.For(n) || n > 1024 && k != api.LargeClass {
			t.Error(n, k)
		}
		for _, d := range all {
			if capa.Meets(c, of(d.Base-16, d.Len+16)) {
				t.Error("two have a byte both", c, d)
			}
		}
		all = append(all, c)
	}
	if h.S != (api.Stat{Got: 15, Live: 8332, Peak: 8332}) {
		t.Error(h.S)
	}
	for _, x := range []struct {
		thread, n int
		err       api.Errno
	}{{-1, 5, api.ErrInput}, {2, 5, api.ErrInput}, {0, 0, api.ErrInput}, {0, -1, api.ErrInput}, {0, 4001, api.ErrBig}, {2, 4001, api.ErrInput}, {0, math.MaxInt, api.ErrBig}, {0, math.MinInt, api.ErrInput}, {math.MaxInt, 1, api.ErrInput}} {
		if c, err := h.Malloc(x.thread, x.n); err != x.err || c != (api.Cap{}) {
			t.Error(x, c, err)
		}
	}
	if h.S.Got != 15 {
		t.Error("counted")
	}
}

func TestCalloc(t *testing.T) {
	h := made(t, nil)
	for _, x := range []struct{ many, n int }{{1, 5}, {5, 1}, {7, 11}, {40, 100}, {4000, 1}, {1, 4000}} {
		c, err := h.Calloc(1, x.many, x.n)
		if err != 0 {
			t.Fatal(x, err)
		}
		isNew(t, h, c, x.many*x.n, 0)
	}
	for _, x := range []struct {
		thread, many, n int
		err             api.Errno
	}{{-1, 1, 1, api.ErrInput}, {2, 1, 1, api.ErrInput}, {0, 0, 1, api.ErrInput}, {0, 1, 0, api.ErrInput}, {0, -1, -1, api.ErrInput}, {2, 4001, 1, api.ErrInput}, {0, 0, 5000, api.ErrInput}, {0, 4001, 1, api.ErrBig}, {0, 2, 2001, api.ErrBig}, {0, math.MaxInt, math.MaxInt, api.ErrBig}, {0, 1 << 32, 1 << 32, api.ErrBig}, {0, math.MinInt, math.MinInt, api.ErrInput}} {
		if c, err := h.Calloc(x.thread, x.many, x.n); err != x.err || c != (api.Cap{}) {
			t.Error(x, c, err)
		}
	}
}

func TestAligned(t *testing.T) {
	h := made(t, nil)
	for _, x := range []struct{ align, n, class int }{{1, 5, 0}, {16, 1024, 19}, {8, 1, 0}, {32, 5, api.LargeClass}, {256, 1, api.LargeClass}, {64, 2000, api.LargeClass}, {1, 2000, api.LargeClass}} {
		c, err := h.Aligned(0, x.align, x.n)
		if _, k, _ := h.Find(c.Base); err != 0 || c.Base%x.align != 0 || k != x.class {
			t.Fatal(x, c, k, err)
		}
		isNew(t, h, c, x.n, 9)
	}
	for _, x := range []struct {
		thread, align, n int
		err              api.Errno
	}{{0, 0, 5, api.ErrInput}, {0, 3, 5, api.ErrInput}, {0, 512, 5, api.ErrInput}, {0, -16, 5, api.ErrInput}, {0, math.MinInt, 5, api.ErrInput}, {2, 16, 5, api.ErrInput}, {0, 16, 0, api.ErrInput}, {0, 32, 0, api.ErrInput}, {0, 3, 5000, api.ErrInput}, {0, 256, 4001, api.ErrBig}, {0, 1, 4001, api.ErrBig}} {
		if c, err := h.Aligned(x.thread, x.align, x.n); err != x.err || c != (api.Cap{}) {
			t.Error(x, c, err)
		}
	}
}

func TestNoMemory(t *testing.T) {
	h := made(t, func(c *api.Conf) { c.Large = 0 })
	if c, err := h.Malloc(0, 2000); c != (api.Cap{}) || err != api.ErrMemory {
		t.Error("no pages for large ones", c, err)
	}
	if _, err := h.Malloc(0, 1024); err != 0 {
		t.Error(err)
	}
	if _, err := h.Malloc(0, 1024); err != api.ErrMemory {
		t.Error("no more places", err)
	}
	h = made(t, func(c *api.Conf) { c.Pages = 3 })
	for _, n := range []int{1024, 2000} {
		if _, err := h.Malloc(0, n); err != api.ErrMemory || h.M.Used() != 0 || h.S != (api.Stat{}) {
			t.Error("no more pages", n, err)
		}
	}
	h = made(t, nil)
	if _, err := h.Aligned(0, 32, 4000); err != 0 {
		t.Error(err)
	}
	for range 2 {
		h.Malloc(0, 4000)
	}
	if _, err := h.Malloc(0, 1025); err != api.ErrMemory {
		t.Error("no gap", err)
	}
}

func TestCorrupt(t *testing.T) {
	h := made(t, nil)
	h.Malloc(0, 16)
	next := h.Small.Region(0).At(0)
	for place := range 4 {
		h.M.Write(h.Small.Region(0).At(place)-16, []byte{0})
	}
	had, left := h.S, h.D.Next(0)
	if c, err := h.Malloc(0, 16); c != (api.Cap{}) || err != api.ErrCorrupt || h.S != had || left != 0 {
		t.Error(next, c, err)
	}
	if _, err := h.Malloc(1, 16); err != 0 {
		t.Error("another thread's", err)
	}
}

func TestTagsDiffer(t *testing.T) {
	h := made(t, func(c *api.Conf) { c.Batch, c.Cache = 1, 1 })
	var last api.Cap
	for i := range 100 {
		c, err := h.Malloc(0, 16)
		if err != 0 {
			t.Fatal(err)
		}
		isNew(t, h, c, 16, 9)
		if i > 0 && (c.Base != last.Base || c.Tag == last.Tag) {
			t.Error(i, c, last)
		}
		give(t, h, c)
		oneEpoch(t, h)
		last = c
	}
}

func TestEpoch(t *testing.T) {
	h := made(t, nil)
	if n, err := h.Step(5); n != 0 || err != api.ErrState {
		t.Error(n, err)
	}
	var all []api.Cap
	for range 6 {
		c, _ := h.Malloc(0, 20)
		all = append(all, c)
	}
	big, _ := h.Malloc(0, 2000)
	h.Put(0, all[0])
	h.Put(1, all[1])
	h.Store(big, all[0])
	give(t, h, all[0])
	give(t, h, all[2])
	if h.Start() != 0 || h.Start() != api.ErrState || h.E.Now() != 1 || h.W.Work() != 8+16*h.M.Used() {
		t.Error("Start")
	}
	give(t, h, all[3]) // in epoch 1: it waits till 2 has ended
	work, steps := h.W.Work(), 0
	for h.E.On() {
		n, err := h.Step(7)
		if err != 0 || n != min(7, work-7*steps) {
			t.Fatal(n, err)
		}
		steps++
	}
	if steps != (work+6)/7 || h.S.Clear != 2 || h.R.Count() != 1 || h.M.Caps() != 0 {
		t.Error(steps, h.S, h.R.List())
	}
	if h.S.Ended != 2 || h.Q.Len() != 1 || !h.Q.Has(all[3].Base) || h.P.Count() != 2 || h.P.Has(all[0].Base) || !h.P.Has(all[3].Base) {
		t.Error(h.S, h.Q.List(), h.P.Count())
	}
	for _, i := range []int{0, 2} {
		if hd, err := h.K.Get(all[i].Base); err != 0 || hd != (api.Head{State: api.StateFree, Class: 1, Tag: all[i].Tag}) {
			t.Error(hd, err)
		}
	}
	if l := h.Small.Region(1).List(); !slices.Equal(l[len(l)-2:], []int{all[0].Base, all[2].Base}) {
		t.Error("back to the region, in order", l)
	}
	give(t, h, big)
	oneEpoch(t, h)
	if h.S.Ended != 4 || h.Q.Len() != 0 || h.P.Count() != 0 || len(h.Large.All()) != 0 || !slices.Equal(h.Large.Shelf(), []api.Area{{First: 101, Pages: 8}}) {
		t.Error(h.S, h.Large.Shelf())
	}
}

func TestLost(t *testing.T) {
	h := made(t, nil)
	a, _ := h.Malloc(0, 20)
	b, _ := h.Malloc(0, 20)
	give(t, h, a)
	give(t, h, b)
	h.M.Write(a.Base-14, []byte{19})
	oneEpoch(t, h)
	if h.Q.Len() != 0 || h.S.Ended != 2 || !h.P.Has(a.Base) || h.P.Has(b.Base) || h.Small.Busy(1) != 1 || slices.Contains(h.Small.Region(1).List(), a.Base) {
		t.Error(h.S, h.P.Count(), h.Small.Busy(1))
	}
}

func TestRelease(t *testing.T) {
	h := made(t, nil)
	a, _ := h.Malloc(0, 20)
	b, _ := h.Malloc(1, 2000)
	give(t, h, a)
	give(t, h, b)
	if n := h.Release(); n != 0 {
		t.Error("what waits stays", n)
	}
	oneEpoch(t, h)
	used := h.M.Used()
	if n := h.Release(); n != used || h.M.Used() != 0 || h.Large.Widest() != 60 || !mem.Same(h.M, mem.New(5)) {
		t.Error(n, h.M.List())
	}
	for k := range api.Classes {
		if h.Small.Region(k).Made() != 0 || h.Small.Cached(k) != 0 {
			t.Error(k)
		}
	}
}

func TestNone(t *testing.T) {
	var h *Heap
	_, k, ok := h.Find(16)
	a, err := h.Malloc(0, 1)
	b, err2 := h.Calloc(0, 1, 1)
	c, err3 := h.Aligned(0, 1, 1)
	n, err4 := h.Step(1)
	if k != 0 || ok || a.Valid || b.Valid || c.Valid || err != api.ErrInput || err2 != api.ErrInput || err3 != api.ErrInput || h.Start() != api.ErrInput || n != 0 || err4 != api.ErrInput || h.Release() != 0 {
		t.Error("of none")
	}
}
