package pair

import (
	"cubbyhole/api"
	"math"
	"testing"
)

func good() api.Conf {
	return api.Conf{Pages: 160, Region: 5, Large: 60, Threads: 2, Cache: 4, Batch: 4, Shelf: 2, Regs: 8, Most: 4000, Fill: 9, Key: 7}
}

func made(t *testing.T) *Pair {
	t.Helper()
	p, err := New(good(), nil)
	if err != 0 {
		t.Fatal(err)
	}
	return p
}

// Promise 46.1.
func TestNew(t *testing.T) {
	p := made(t)
	if p.Bad() != 0 || p.H.R.Len() != 8 || p.M.Regs() != 8 || p.H.C != good() {
		t.Error("new")
	}
	c := good()
	c.Fill = 256
	if p, err := New(c, nil); p != nil || err != api.ErrInput {
		t.Error(err)
	}
	c.Fill, c.Large = 0, 925
	if p, err := New(c, nil); p != nil || err != api.ErrBig {
		t.Error(err)
	}
	if p, _ := New(good(), []int{1, 2, 3}); p.H.D.Left() != 3 {
		t.Error("numbers that are drawn")
	}
}

// Promise T1: of any things that are done nothing is unlike.
func TestNothingIsUnlike(t *testing.T) {
	seed := uint64(9)
	below := func(n int) int {
		seed = seed*6364136223846793005 + 1442695040888963407
		return int(seed>>33) % n
	}
	sizes := []int{0, 1, 5, 16, 17, 32, 40, 100, 500, 1024, 1025, 2000, 4000, 4001, math.MaxInt, math.MinInt}
	for round := range 12 {
		c := good()
		c.Cache, c.Batch, c.Shelf = 1+round, 1+round/2, round%4
		if round%3 == 1 {
			c.Large, c.Pages = round%2*20, 60
		}
		p, _ := New(c, []int{5, 4, 3})
		full := 0
		for i := range 3000 {
			o := api.Op{Kind: below(20), Thread: below(3), A: below(8), B: below(8), V: below(8), N: sizes[below(len(sizes))], M: 1 << below(10), Data: []byte{byte(i), 1, 2}}
			switch {
			case below(3) == 0:
				o.Kind, o.N = api.OpMalloc, 1+below(60)
			case below(8) == 0:
				o.Kind = api.OpFree
			case o.Kind == api.OpMove:
				o.N = 16 * below(6)
			case o.Kind == api.OpDrop:
				o.N = 1 << below(7) / 4
			}
			if r := p.Do(o); r.Err == api.ErrMemory {
				full++
			}
			if p.Bad() != 0 {
				t.Fatal(round, i, o, p.Bad())
			}
		}
		if c.Pages == 60 && full == 0 {
			t.Error("it never was full")
		}
	}
}

func TestFull(t *testing.T) {
	p := made(t)
	for range 2 {
		p.Do(api.Op{Kind: api.OpMalloc, N: 1024})
	}
	if r := p.Do(api.Op{Kind: api.OpMalloc, N: 1024}); r.Err != api.ErrMemory || p.Bad() != 0 || p.M.Live() != 1 {
		t.Error(r, p.Bad(), p.M.Live())
	}
}

func TestUnlikeResult(t *testing.T) {
	for i, x := range []struct {
		spoil func(p *Pair)
		o     api.Op
	}{
		{func(p *Pair) { c, _ := p.H.Get(0); p.H.Write(c, []byte{1}) }, api.Op{Kind: api.OpRead, N: 5}},
		{func(p *Pair) { p.M.Do(api.Op{Kind: api.OpWrite, Data: []byte{1}}, false) }, api.Op{Kind: api.OpRead, N: 5}},
		{func(p *Pair) { c, _ := p.H.Get(0); p.H.M.Write(c.Base-16, []byte{1}) }, api.Op{Kind: api.OpUsable}},
	} {
		p := made(t)
		p.Do(api.Op{Kind: api.OpMalloc, N: 20})
		x.spoil(p)
		if p.Do(api.Op{Kind: api.OpStart}); p.Bad() != 0 {
			t.Error(i, "nobody was told", p.Bad())
		}
		p.Do(x.o)
		if p.Bad() != api.UnlikeResult {
			t.Error(i, p.Bad())
		}
		if p.Do(api.Op{Kind: api.OpStart}); p.Bad() != api.UnlikeResult {
			t.Error(i, "so far", p.Bad())
		}
	}
}

func TestUnlikeErrorAlone(t *testing.T) {
	p := made(t)
	p.Do(api.Op{Kind: api.OpMalloc, N: 20})
	c, _ := p.H.Get(0)
	p.H.M.Write(c.Base-16, []byte{1})
	if r := p.Do(api.Op{Kind: api.OpFree}); r.Err != api.ErrCorrupt || p.Bad() != api.UnlikeResult|api.UnlikeRegs {
		t.Error(r, p.Bad())
	}
}

func TestUnlikeRegs(t *testing.T) {
	for i, change := range []func(c *api.Cap){
		func(c *api.Cap) { c.Cur++ }, func(c *api.Cap) { c.Perm = 30 }, func(c *api.Cap) { c.Len-- }, func(c *api.Cap) { c.Base++; c.Cur++ }, func(c *api.Cap) { c.Base += 16; c.Cur += 16 }, func(c *api.Cap) { *c = api.Cap{} },
	} {
		for _, n := range []int{40, 2000} {
			p := made(t)
			p.Do(api.Op{Kind: api.OpMalloc, N: n})
			c, _ := p.H.Get(0)
			change(&c)
			if p.H.R.Put(0, c) != 0 {
				t.Error(i, c)
			}
			if p.Do(api.Op{Kind: api.OpStart}); p.Bad() != api.UnlikeRegs {
				t.Error(i, n, p.Bad())
			}
		}
	}
	p := made(t)
	p.Do(api.Op{Kind: api.OpMalloc, N: 40})
	p.M.Do(api.Op{Kind: api.OpClear}, false)
	if p.Do(api.Op{Kind: api.OpStart}); p.Bad() != api.UnlikeRegs {
		t.Error("the model has none", p.Bad())
	}
}

func TestUnlikeSame(t *testing.T) {
	p := made(t)
	p.Do(api.Op{Kind: api.OpMalloc, A: 0, N: 40})
	p.Do(api.Op{Kind: api.OpMalloc, A: 1, N: 40})
	a, _ := p.H.Get(0)
	b, _ := p.H.Get(1)
	p.H.Put(0, b)
	p.H.Put(1, a)
	if p.Do(api.Op{Kind: api.OpStart}); p.Bad() != api.UnlikeSame {
		t.Error("at two places", p.Bad())
	}
	p = made(t)
	p.Do(api.Op{Kind: api.OpMalloc, A: 0, N: 40})
	a, _ = p.H.Get(0)
	p.H.Put(1, a)
	p.M.Do(api.Op{Kind: api.OpMalloc, A: 1, N: 40}, false)
	if p.Do(api.Op{Kind: api.OpStart}); p.Bad() != api.UnlikeSame {
		t.Error("two at one", p.Bad())
	}
	p = made(t)
	p.Do(api.Op{Kind: api.OpMalloc, A: 0, N: 40})
	other, _ := p.H.Malloc(0, 40)
	p.H.Put(0, other)
	if p.Do(api.Op{Kind: api.OpStart}); p.Bad() != api.UnlikeSame {
		t.Error("elsewhere", p.Bad())
	}
}

// A place that was given back may be another chunk's.
func TestPlacesAgain(t *testing.T) {
	p := made(t)
	seen := map[int]int{}
	for range 60 {
		p.Do(api.Op{Kind: api.OpMalloc, N: 500})
		c, _ := p.H.Get(0)
		seen[c.Base]++
		p.Do(api.Op{Kind: api.OpRealloc, A: 1, B: 0, N: 700})
		p.Do(api.Op{Kind: api.OpFree, B: 1})
		p.Do(api.Op{Kind: api.OpStart})
		p.Do(api.Op{Kind: api.OpStep, N: 1000})
	}
	if p.Bad() != 0 || len(seen) > 2 {
		t.Error(p.Bad(), seen)
	}
}

func TestRun(t *testing.T) {
	p := made(t)
	l := make([]api.Op, api.MaxOps+1)
	for i := range l {
		l[i] = api.Op{Kind: api.OpClear}
	}
	l[500] = api.Op{Kind: api.OpMalloc, N: 1}
	if n := len(p.Run(l)); n != api.MaxOps || p.M.Live() != 0 {
		t.Error(n)
	}
	if r := p.Run([]api.Op{{Kind: api.OpMalloc, N: 5}, {Kind: api.OpRead, N: 2}, {Kind: 99}}); len(r) != 3 || r[0].Err != 0 || string(r[1].Data) != "\x09\x09" || r[2].Err != api.ErrInput || p.Bad() != 0 || len(p.Run(nil)) != 0 {
		t.Error(r)
	}
}

func TestNone(t *testing.T) {
	var p *Pair
	if r := p.Do(api.Op{Kind: api.OpStart}); r.Err != api.ErrInput || p.Bad() != 0 {
		t.Error(r)
	}
	if r := p.Run(make([]api.Op, 2)); len(r) != 2 || r[1].Err != api.ErrInput {
		t.Error(r)
	}
}
