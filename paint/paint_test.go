package paint

import (
	"cubbyhole/api"
	"math"
	"testing"
)

func of(base, n int) api.Span { return api.Span{Base: base, Len: n} }

// Promise 33.1.
func TestPutAndClean(t *testing.T) {
	p := New()
	if p.Count() != 0 || p.Has(0) || p.Some(of(0, api.MaxBytes)) {
		t.Error("new")
	}
	if p.Put(of(32, 16)) != 1 || p.Put(of(47, 2)) != 1 || p.Put(of(32, 32)) != 0 || p.Count() != 2 {
		t.Error("Put", p.Count())
	}
	for at, want := range map[int]bool{31: false, 32: true, 47: true, 63: true, 64: false, 0: false, -1: false, -16: false, api.MaxBytes: false, math.MaxInt: false, math.MinInt: false} {
		if p.Has(at) != want {
			t.Error(at)
		}
	}
	if p.Put(of(0, api.MaxBytes)) != api.Granules-2 || p.Clean(of(0, api.MaxBytes)) != api.Granules {
		t.Error("all")
	}
	p.Put(of(32, 64))
	if p.Clean(of(63, 2)) != 2 || p.Clean(of(63, 2)) != 0 || p.Count() != 2 || p.Has(48) || !p.Has(32) || !p.Has(80) {
		t.Error("Clean")
	}
}

func TestSomeAndWhole(t *testing.T) {
	p := New()
	p.Put(of(32, 32))
	for _, x := range []struct {
		s           api.Span
		some, whole bool
	}{{of(32, 32), true, true}, {of(40, 20), true, true}, {of(31, 2), true, false}, {of(63, 2), true, false}, {of(0, 32), false, false}, {of(64, 16), false, false}, {of(0, 100), true, false}, {of(40, 1), true, true}} {
		if p.Some(x.s) != x.some || p.Whole(x.s) != x.whole {
			t.Error(x)
		}
	}
	for _, s := range []api.Span{{}, of(40, 0), of(40, -1), of(-1, 99), of(40, math.MaxInt), of(api.MaxBytes, 1)} {
		if p.Some(s) || p.Whole(s) || p.Put(s) != 0 || p.Clean(s) != 0 || p.Count() != 2 {
			t.Error(s)
		}
	}
}

func TestTwin(t *testing.T) {
	p := New()
	p.Put(of(32, 32))
	w := p.Twin()
	if w.Count() != 2 || !w.Has(32) || w.Clean(of(32, 1)) != 1 || !p.Has(32) || p.Put(of(0, 1)) != 1 || w.Has(0) {
		t.Error("of its own")
	}
}

func TestNone(t *testing.T) {
	var p *Paint
	if p.Put(of(0, 1)) != 0 || p.Clean(of(0, 1)) != 0 || p.Has(0) || p.Some(of(0, 1)) || p.Whole(of(0, 1)) || p.Count() != 0 || p.Twin() != nil {
		t.Error("of none")
	}
}
