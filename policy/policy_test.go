package policy

import (
	"bytes"
	"cubbyhole/api"
	"cubbyhole/audit"
	"cubbyhole/client"
	"cubbyhole/drill"
	"cubbyhole/heap"
	"cubbyhole/pair"
	"math"
	"testing"
)

func made(t *testing.T) *heap.Heap {
	t.Helper()
	h, err := heap.New(api.Conf{Pages: 160, Region: 5, Large: 60, Threads: 2, Cache: 4, Batch: 4, Shelf: 2, Regs: 8, Most: 4000, Key: 7}, nil)
	if err != 0 {
		t.Fatal(err)
	}
	return h
}

// waits lets a chunk wait, of 112 bytes.
func waits(h *heap.Heap) {
	client.Do(h, api.Op{Kind: api.OpMalloc, N: 100})
	client.Do(h, api.Op{Kind: api.OpFree})
}

func of(bytes, sweep int) api.Policy { return api.Policy{Bytes: bytes, Sweep: sweep} }

var wrong = []api.Policy{of(-1, 0), of(0, -1), of(-1, -1), of(1, -1), of(-1, 1), of(math.MinInt, 5)}

// Promise 53.1.
func TestCheckAndDue(t *testing.T) {
	h := made(t)
	for _, p := range []api.Policy{{}, of(1, 0), of(0, 1), of(math.MaxInt, math.MaxInt)} {
		if !Check(p) || Due(h, p) {
			t.Error(p)
		}
	}
	waits(h)
	for _, x := range []struct {
		p   api.Policy
		due bool
	}{{of(0, 5), false}, {of(1, 0), true}, {of(112, 0), true}, {of(113, 0), false}, {of(math.MaxInt, 0), false}} {
		if Due(h, x.p) != x.due {
			t.Error(x)
		}
	}
	for _, p := range wrong {
		if Check(p) || Due(h, p) || Tick(h, p) != 0 || h.E.Now() != 0 {
			t.Error(p)
		}
	}
	h.Start()
	if Due(h, of(1, 0)) {
		t.Error("one goes on")
	}
	for _, p := range wrong {
		if Tick(h, p) != 0 || h.W.Done() != 0 {
			t.Error(p)
		}
	}
	h.Step(math.MaxInt)
	if Due(h, of(1, 0)) {
		t.Error("none waits")
	}
}

func TestTick(t *testing.T) {
	h := made(t)
	if Tick(h, of(112, 5)) != 0 || h.E.Now() != 0 {
		t.Error("none waits")
	}
	waits(h)
	if Tick(h, of(113, 5)) != 0 || h.E.Now() != 0 || Tick(h, of(0, 5)) != 0 || h.E.Now() != 0 {
		t.Error("not due")
	}
	if Tick(h, of(112, 0)) != 0 || !h.E.On() || h.W.Done() != 0 {
		t.Error("it begins, and nothing is swept")
	}
	if Tick(h, of(0, 5)) != 5 || h.W.Done() != 5 || Tick(h, of(112, 3)) != 3 || h.E.Now() != 1 {
		t.Error("it goes on")
	}
	left := h.W.Work() - 8
	if Tick(h, of(0, math.MaxInt)) != left || h.E.On() || h.Q.Len() != 0 || Tick(h, of(112, 5)) != 0 {
		t.Error("it ends")
	}
	waits(h)
	if Tick(h, of(1, 7)) != 7 || h.E.Now() != 2 {
		t.Error("begins, and is swept")
	}
}

func TestDo(t *testing.T) {
	h := made(t)
	p := of(100, 6)
	for i, x := range []struct {
		o         api.Op
		err       api.Errno
		now, done int
	}{
		{api.Op{Kind: api.OpMalloc, N: 100}, 0, 0, 0}, {api.Op{Kind: api.OpFree, Thread: 2}, api.ErrInput, 0, 0}, {api.Op{Kind: api.OpFree}, 0, 1, 6}, {api.Op{Kind: 99}, api.ErrInput, 1, 12}, {api.Op{Kind: api.OpStep, N: 2}, 0, 1, 20}, {api.Op{Kind: api.OpRead}, api.ErrDead, 1, 26},
	} {
		if told := Do(h, p, x.o); told.Err != x.err || h.E.Now() != x.now || h.W.Done() != x.done {
			t.Error(i, told, h.E, h.W.Done())
		}
	}
	if told := Do(h, wrong[0], api.Op{Kind: api.OpMalloc, N: 1}); told.Err != 0 || h.W.Done() != 26 {
		t.Error("what may not be does nothing")
	}
}

func TestRun(t *testing.T) {
	h := made(t)
	l := make([]api.Op, api.MaxOps+2)
	for i := range l {
		l[i] = api.Op{Kind: api.OpMalloc, N: 100}
		if i%2 == 1 {
			l[i].Kind = api.OpFree
		}
	}
	told, began := Run(h, of(112, 1000), l)
	if len(told) != api.MaxOps || began != 250 || h.S.Got != 250 || h.Q.Len() != 0 {
		t.Error(len(told), began, h.S)
	}
	told, began = Run(h, of(0, 1000), []api.Op{{Kind: api.OpStart}, {Kind: api.OpStart}, {Kind: api.OpRead, N: -1}})
	if len(told) != 3 || told[2].Err != api.ErrDead || began != 2 {
		t.Error("those that are begun by hand, too", told, began)
	}
	if told, began = Run(h, of(1, 1), nil); len(told) != 0 || began != 0 {
		t.Error(told, began)
	}
}

// Nobody can tell which policy there is, but for when there is memory; with one nothing is unlike, and nothing is wrong.
func TestNobodyCanTell(t *testing.T) {
	began := 0
	for seed := range uint64(30) {
		d := drill.New(seed)
		c := d.Conf(true)
		x, err := pair.New(c, nil)
		y, _ := pair.New(c, nil)
		if err != 0 {
			t.Fatal(err)
		}
		p := of(1+d.Below(3000), d.Below(100))
		full := false
		for _, o := range d.Ops(c, 400) {
			a, b := Pair(x, p, o), y.Do(o)
			full = full || a.Err == api.ErrMemory || b.Err == api.ErrMemory
			if !full && (a.Err != b.Err || a.N != b.N || !bytes.Equal(a.Data, b.Data)) {
				t.Fatal(seed, o, a, b)
			}
			if x.Bad() != 0 {
				t.Fatal(seed, o, x.Bad())
			}
		}
		if sum := audit.Check(x.H); sum != 0 {
			t.Fatal(seed, sum)
		}
		began += x.H.E.Now() - y.H.E.Now()
	}
	if began < 30 {
		t.Error("they did not begin by themselves", began)
	}
}

func TestNone(t *testing.T) {
	told, began := Run(nil, of(1, 1), make([]api.Op, 3))
	if Due(nil, of(1, 1)) || Tick(nil, of(1, 1)) != 0 || Do(nil, of(1, 1), api.Op{Kind: api.OpStart}).Err != api.ErrInput || Pair(nil, of(1, 1), api.Op{Kind: api.OpStart}).Err != api.ErrInput || told != nil || began != 0 {
		t.Error("of none")
	}
}
