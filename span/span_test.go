package span

import (
	"cubbyhole/api"
	"math"
	"testing"
)

func of(base, n int) api.Span { return api.Span{Base: base, Len: n} }

var wrong = []api.Span{{}, {Base: -1, Len: 5}, {Base: 5}, {Base: 5, Len: -1}, {Base: api.MaxBytes, Len: 1}, {Base: api.MaxBytes - 1, Len: 2}, {Base: 1, Len: math.MaxInt}, {Base: math.MaxInt, Len: math.MaxInt}, {Base: math.MinInt, Len: math.MinInt}}

// Promise 3.1.
func TestMayAndEnd(t *testing.T) {
	for _, s := range []api.Span{of(0, 1), of(0, api.MaxBytes), of(api.MaxBytes-1, 1), of(7, 9)} {
		if !May(s) || End(s) != s.Base+s.Len {
			t.Error(s, End(s))
		}
	}
	for _, s := range wrong {
		_, p := Pages(s)
		_, g := Granules(s)
		_, both := Cut(s, of(0, api.MaxBytes))
		_, too := Cut(of(0, api.MaxBytes), s)
		if May(s) || End(s) != 0 || Has(s, s.Base) || Holds(of(0, api.MaxBytes), s) || Holds(s, s) || Meets(s, of(0, api.MaxBytes)) || Meets(of(0, api.MaxBytes), s) || p+g != 0 || Inside(s, s.Base, 0) || both || too {
			t.Error(s)
		}
	}
}

func TestHasHoldsMeetsCut(t *testing.T) {
	all := []api.Span{of(8, 16), of(8, 1), of(23, 1), of(24, 4), of(0, 8), of(0, 9), of(7, 18), of(8, 15), of(9, 15), of(9, 16), of(0, 64)}
	for _, a := range all {
		for _, b := range all {
			holds, n, first := true, 0, -1
			for at := range 80 {
				in, too := at >= a.Base && at < a.Base+a.Len, at >= b.Base && at < b.Base+b.Len
				if Has(a, at) != in {
					t.Error("Has", a, at)
				}
				holds = holds && (in || !too)
				if in && too {
					n++
					if first < 0 {
						first = at
					}
				}
			}
			want := api.Span{}
			if n > 0 {
				want = of(first, n)
			}
			if c, ok := Cut(a, b); Holds(a, b) != holds || Meets(a, b) != (n > 0) || ok != (n > 0) || c != want {
				t.Error(a, b, Holds(a, b), Meets(a, b), c, ok)
			}
		}
	}
	if Has(of(0, 5), -1) || Has(of(0, 5), math.MinInt) || Has(of(0, 5), math.MaxInt) {
		t.Error("Has")
	}
}

func TestPagesAndGranules(t *testing.T) {
	for _, x := range []struct {
		s     api.Span
		p, pn int
		g, gn int
	}{
		{of(8, 16), 0, 1, 0, 2}, {of(16, 16), 0, 1, 1, 1}, {of(255, 2), 0, 2, 15, 2}, {of(256, 256), 1, 1, 16, 16},
		{of(0, api.MaxBytes), 0, api.MaxPages, 0, api.Granules}, {of(api.MaxBytes-1, 1), api.MaxPages - 1, 1, api.Granules - 1, 1}, {of(15, 1), 0, 1, 0, 1},
	} {
		p, pn := Pages(x.s)
		g, gn := Granules(x.s)
		if p != x.p || pn != x.pn || g != x.g || gn != x.gn {
			t.Error(x, p, pn, g, gn)
		}
	}
}

func TestOf(t *testing.T) {
	if Of(0, 1) != of(0, 256) || Of(3, 2) != of(768, 512) || Of(0, api.MaxPages) != of(0, api.MaxBytes) || Of(api.MaxPages-1, 1) != of(api.MaxBytes-256, 256) {
		t.Error("of pages")
	}
	for _, x := range [][2]int{{-1, 1}, {0, 0}, {0, -1}, {0, api.MaxPages + 1}, {1, api.MaxPages}, {api.MaxPages - 1, 2}, {api.MaxPages, 1}, {api.MaxPages, 0}, {1, math.MaxInt}, {math.MaxInt, 1}, {math.MinInt, math.MaxInt}, {1 << 56, 1}} {
		if Of(x[0], x[1]) != (api.Span{}) {
			t.Error(x)
		}
	}
}

func TestInside(t *testing.T) {
	s := of(8, 16)
	for _, x := range []struct {
		at, n int
		in    bool
	}{{8, 16, true}, {8, 0, true}, {24, 0, true}, {24, 1, false}, {25, 0, false}, {7, 1, false}, {7, 0, false}, {8, 17, false}, {23, 1, true}, {8, -1, false}, {24, -1, false}, {math.MaxInt, 1, false}, {8, math.MaxInt, false}, {math.MaxInt, math.MaxInt, false}, {math.MinInt, math.MinInt, false}} {
		if Inside(s, x.at, x.n) != x.in {
			t.Error(x)
		}
	}
}
