package prim

import (
	"cubbyhole/api"
	"cubbyhole/chunk"
	"cubbyhole/class"
	"cubbyhole/draw"
	"cubbyhole/mem"
	"math"
	"slices"
	"testing"
)

func plain() *draw.Draws {
	l := make([]int, 10000)
	for i := range l {
		l[i] = -1
	}
	return draw.New(l)
}

func small(batch, threads, most int) (*Prim, chunk.Chunks) {
	c := chunk.Chunks{M: mem.New(200), Key: 7}
	return New(c, plain(), api.Area{First: 2, Pages: 5}, batch, threads, most), c
}

// Promise 27.1.
func TestNew(t *testing.T) {
	p, _ := small(3, 2, 5)
	for k := range api.Classes {
		r := p.Region(k)
		if r.Class() != k || r.Most() != class.Fit(k, 5) || r.At(0) != (2+5*k)*256+16 {
			t.Error(k, r.At(0))
		}
	}
	for _, k := range []int{-1, 20, math.MaxInt, math.MinInt} {
		if p.Region(k) != nil || p.Cached(k) != 0 || p.Idle(k) != 0 || p.Busy(k) != 0 {
			t.Error(k)
		}
	}
	for _, a := range []api.Area{{}, {First: -1, Pages: 5}, {Pages: 52}, {First: 925, Pages: 5}, {First: 1, Pages: math.MaxInt}} {
		if New(chunk.Chunks{M: mem.New(9)}, plain(), a, 3, 2, 5) != nil {
			t.Error(a)
		}
	}
	if New(chunk.Chunks{}, plain(), api.Area{First: 924, Pages: 5}, 3, 2, 5) == nil {
		t.Error("up to the last page")
	}
	for threads, want := range map[int]int{0: 1, -1: 1, 1: 1, 8: 8, 9: 8, math.MaxInt: 8} {
		if p, _ := small(3, threads, 5); p.Threads() != want {
			t.Error(threads, p.Threads())
		}
	}
}

func TestTakeAndGive(t *testing.T) {
	p, c := small(3, 2, 5)
	at, err := p.Take(0, 0)
	base := 2*256 + 16
	// places 0 to 2 are made, in order: the last one is taken
	if at != base+64 || err != 0 || p.Cached(0) != 2 || p.Idle(0) != 2 || p.Busy(0) != 1 || p.Region(0).Made() != 3 {
		t.Error(at, err, p.Cached(0))
	}
	if p.Give(0, 0, at) != 0 || p.Cached(0) != 3 || p.Busy(0) != 0 {
		t.Error("a batch is at hand")
	}
	if again, err := p.Take(0, 0); again != at || err != 0 {
		t.Error("the last one that came", again, err)
	}
	if other, err := p.Take(1, 0); other != base+160 || err != 0 || p.Cached(0) != 4 || p.Busy(0) != 2 {
		t.Error("another thread's", other, err)
	}
	if h, err := c.Get(at); err != 0 || h.State != api.StateFree {
		t.Error("headers are not written", h, err)
	}
	for _, x := range [][3]int{{-1, 0, at}, {2, 0, at}, {0, -1, at}, {0, 20, at}, {0, 0, at + 1}, {0, 1, at}, {0, 0, -1}, {math.MaxInt, 0, at}, {0, math.MaxInt, at}, {0, 0, math.MinInt}} {
		if p.Give(x[0], x[1], x[2]) != api.ErrInput {
			t.Error(x)
		}
	}
	for _, x := range [][2]int{{-1, 0}, {2, 0}, {0, -1}, {0, 20}, {math.MinInt, math.MinInt}} {
		if at, err := p.Take(x[0], x[1]); at != 0 || err != api.ErrInput {
			t.Error(x, at, err)
		}
	}
}

func TestDrained(t *testing.T) {
	p, _ := small(2, 1, 4)
	var l []int
	for range 6 {
		at, _ := p.Take(0, 0)
		l = append(l, at)
	}
	for _, at := range l[:4] {
		p.Give(0, 0, at)
	}
	if p.Cached(0) != 4 || p.Region(0).Free() != 0 {
		t.Error(p.Cached(0))
	}
	p.Give(0, 0, l[4])
	if p.Cached(0) != 3 || !slices.Equal(p.Region(0).List(), l[:2]) {
		t.Error("the first half goes first", p.Cached(0), p.Region(0).List())
	}
	if at, _ := p.Take(0, 0); at != l[4] {
		t.Error(at)
	}
}

func TestRoomForABatch(t *testing.T) {
	for _, x := range [][3]int{{4, 1, 4}, {99, 0, 16}, {0, 0, 1}, {2, 99, 32}} { // batch, most, room
		p, _ := small(x[0], 1, x[1])
		var l []int
		for range x[2] + 1 {
			at, err := p.Take(0, 0)
			if err != 0 {
				t.Fatal(x, err)
			}
			l = append(l, at)
		}
		p.Flush()
		for _, at := range l[:x[2]] {
			p.Give(0, 0, at)
		}
		if p.Cached(0) != x[2] {
			t.Error(x, p.Cached(0))
		}
		if p.Give(0, 0, l[x[2]]); p.Cached(0) != x[2]/2+1 {
			t.Error(x, "no room", p.Cached(0))
		}
	}
}

func TestCorrupt(t *testing.T) {
	for name, spoil := range map[string]func(c chunk.Chunks, at int){
		"bent":          func(c chunk.Chunks, at int) { c.M.Write(at-16, []byte{1}) },
		"not free":      func(c chunk.Chunks, at int) { c.Put(at, api.Head{State: api.StateLive}) },
		"another class": func(c chunk.Chunks, at int) { c.Put(at, api.Head{State: api.StateFree, Class: 1}) },
		"not mapped":    func(c chunk.Chunks, at int) { c.M.Unmap(2, 1) },
	} {
		p, c := small(3, 2, 5)
		at, _ := p.Take(0, 0)
		p.Give(0, 0, at)
		spoil(c, at)
		for range 2 {
			if got, err := p.Take(0, 0); got != 0 || err != api.ErrCorrupt || p.Cached(0) != 3 {
				t.Error(name, got, err, p.Cached(0))
			}
		}
		p.Flush()
		for thread := range 2 { // all stays: the batch is the region's still
			if got, err := p.Take(thread, 0); got != 0 || err != api.ErrCorrupt || p.Cached(0) != 0 || p.Region(0).Free() != 3 || p.Region(0).List()[2] != at {
				t.Error(name, "of the region", got, err, p.Cached(0), p.Region(0).List())
			}
		}
		c.M.Map(2, 1)
		for _, at := range p.Region(0).List() {
			c.Put(at, api.Head{State: api.StateFree})
		}
		if got, err := p.Take(1, 0); got != at || err != 0 || p.Cached(0) != 2 {
			t.Error(name, "mended", got, err)
		}
	}
}

func TestErrorsOfTheRegion(t *testing.T) {
	c := chunk.Chunks{M: mem.New(5), Key: 7}
	p := New(c, plain(), api.Area{Pages: 5}, 3, 1, 3)
	if at, err := p.Take(0, 19); err != 0 || at != 19*5*256+16 {
		t.Error(at, err)
	}
	if at, err := p.Take(0, 19); at != 0 || err != api.ErrMemory {
		t.Error(at, err)
	}
	if at, err := p.Take(0, 0); at != 0 || err != api.ErrPages {
		t.Error(at, err)
	}
}

func TestFlushAndRelease(t *testing.T) {
	p, c := small(3, 2, 5)
	a, _ := p.Take(0, 0)
	b, _ := p.Take(1, 0)
	p.Take(1, 7)
	used := c.M.Used()
	if n := p.Flush(); n != 6 || p.Cached(0) != 0 || p.Idle(0) != 4 || p.Busy(0) != 2 || p.Idle(7) != 2 {
		t.Error(n)
	}
	if !slices.Equal(p.Region(0).List(), []int{528, 560, 624, 656}) {
		t.Error("thread by thread", p.Region(0).List())
	}
	if p.Flush() != 0 {
		t.Error("nothing is left")
	}
	p.Give(0, 0, a)
	p.Give(1, 0, b)
	// of class 7 the third chunk, that is on its second page, is busy; of class 0 what is at hand stays
	if n := p.Release(); n != 1 || c.M.Used() != used-1 || p.Region(0).Made() != 6 {
		t.Error("what is at hand stays", n)
	}
	p.Flush()
	if n := p.Release(); n != 1 || p.Region(0).Made() != 0 || p.Busy(7) != 1 {
		t.Error(n)
	}
}

func TestNone(t *testing.T) {
	var p *Prim
	at, err := p.Take(0, 0)
	if p.Threads() != 0 || p.Region(0) != nil || at != 0 || err != api.ErrInput || p.Give(0, 0, 16) != api.ErrInput || p.Cached(0) != 0 || p.Flush() != 0 || p.Release() != 0 || p.Idle(0) != 0 || p.Busy(0) != 0 {
		t.Error("of none")
	}
}
