package sweep

import (
	"cubbyhole/api"
	"cubbyhole/code"
	"cubbyhole/mem"
	"cubbyhole/paint"
	"cubbyhole/regs"
	"math"
	"testing"
)

func of(base, n int) api.Span { return api.Span{Base: base, Len: n} }

func one(base, n int) api.Cap {
	return api.Cap{Base: base, Len: n, Cur: base, Perm: 31, Tag: 3, Valid: true}
}

// place has the pages 2 and 5, four registers, and the bytes 512 to 543 painted.
func place() (*mem.Mem, *regs.Regs, *paint.Paint) {
	m, r, p := mem.New(9), regs.New(4), paint.New()
	m.Map(2, 1)
	m.Map(5, 1)
	p.Put(of(512, 32))
	r.Put(0, one(500, 12))
	r.Put(1, one(500, 13))
	r.Put(3, one(544, 1))
	m.Keep(512, code.Bytes(one(600, 1)))
	m.Keep(528, code.Bytes(one(543, 9)))
	m.Keep(1280, code.Bytes(one(0, api.MaxBytes)))
	m.Keep(1520, []byte("none's sixteen !"))
	return m, r, p
}

// Promise 36.1.
func TestWhole(t *testing.T) {
	m, r, p := place()
	s := New(m, r)
	if s.Over() || s.Work() != 36 || s.Done() != 0 || s.Gone() != 0 {
		t.Error("new", s.Work())
	}
	if n := s.Step(m, r, p, 1000); n != 36 || !s.Over() || s.Done() != 36 || s.Work() != 36 || s.Gone() != 4 {
		t.Error(n, s.Done(), s.Gone())
	}
	if r.Count() != 2 || m.Caps() != 1 || m.Next(0) != 32 {
		t.Error(r.List(), m.Caps())
	}
	if b, err := m.Read(of(528, 16)); err != 0 || string(b) != string(make([]byte, 16)) {
		t.Error(b, err)
	}
	if s.Step(m, r, p, 5) != 0 || s.Step(m, r, p, 0) != 0 || s.Done() != 36 {
		t.Error("over")
	}
	only := New(mem.New(3), regs.New(1))
	if only.Work() != 1 || only.Over() {
		t.Error("one register, no pages")
	}
}

func TestInOrder(t *testing.T) {
	m, r, p := place()
	s := New(m, r)
	// registers 0 to 3, then granules 32 to 47, then 80 to 95
	gone := 0
	for done := range 36 {
		switch done {
		case 1, 5, 20, 35:
			gone++
		}
		most := 1 - done%3 // below 1 is 1
		if s.Step(m, r, p, most) != 1 || s.Done() != done+1 || s.Gone() != gone || s.Over() != (done == 35) {
			t.Error(done, s.Done(), s.Gone(), gone)
		}
	}
	m, r, p = place()
	s = New(m, r)
	for _, x := range [][3]int{{10, 10, 2}, {10, 10, 2}, {10, 10, 3}, {10, 6, 4}, {10, 0, 4}} {
		if n := s.Step(m, r, p, x[0]); n != x[1] || s.Gone() != x[2] {
			t.Error(x, n, s.Gone())
		}
	}
	if New(m, r).Step(m, r, p, math.MaxInt) != 36 || New(m, r).Step(m, r, p, math.MinInt) != 1 {
		t.Error("most")
	}
}

func TestWhatChangesBetween(t *testing.T) {
	m, r, p := place()
	s := New(m, r)
	s.Step(m, r, p, 4)
	m.Unmap(2, 1)
	m.Map(3, 1)
	m.Keep(768, code.Bytes(one(512, 1)))
	if n := s.Step(m, r, p, 1000); n != 32 || s.Work() != 36 || s.Gone() != 3 || m.Caps() != 1 {
		t.Error("pages that are new are not swept", n, s.Gone(), m.Caps())
	}
}

func TestKnown(t *testing.T) {
	m, r, _ := place()
	for _, x := range []struct {
		s     api.Span
		known bool
	}{{of(500, 1), true}, {of(544, 1), true}, {of(0, 1), true}, {of(0, 0), false}, {of(-1, 9), false}} {
		if Known(m, r, x.s) != x.known {
			t.Error(x)
		}
	}
	m.Clear(80)
	for _, x := range []struct {
		s     api.Span
		known bool
	}{{of(500, 1), true}, {of(499, 1), false}, {of(600, 1), true}, {of(601, 99), false}, {of(551, 1), true}, {of(552, 1), false}} {
		if Known(m, r, x.s) != x.known {
			t.Error(x)
		}
	}
	r = regs.New(4)
	if Known(m, r, of(500, 1)) || !Known(m, r, of(543, 1)) {
		t.Error("kept")
	}
}

func TestKnownInTheFirstGranule(t *testing.T) {
	m := mem.New(2)
	m.Map(0, 1)
	m.Keep(0, code.Bytes(one(100, 5)))
	if !Known(m, nil, of(104, 1)) || Known(m, nil, of(105, 1)) {
		t.Error("kept in the first granule")
	}
	p := paint.New()
	p.Put(of(100, 1))
	if s := New(m, nil); s.Step(m, nil, p, 1) != 1 || s.Gone() != 1 || s.Work() != 16 {
		t.Error("no registers")
	}
}

func TestNone(t *testing.T) {
	var s *Sweep
	m, r, p := place()
	if !s.Over() || s.Work() != 0 || s.Done() != 0 || s.Gone() != 0 || s.Step(m, r, p, 5) != 0 {
		t.Error("of none")
	}
	if n := New(nil, nil); !n.Over() || n.Step(nil, nil, nil, 5) != 0 || Known(nil, nil, of(0, 1)) {
		t.Error("no memory, no registers")
	}
	if n := New(m, r); n.Step(nil, nil, nil, 50) != 36 || n.Gone() != 0 {
		t.Error("no memory any more")
	}
}
