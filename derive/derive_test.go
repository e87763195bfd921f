package derive

import (
	"cubbyhole/api"
	"math"
	"testing"
)

func good() api.Cap {
	return api.Cap{Base: 32, Len: 16, Cur: 40, Perm: 19, Tag: 5, Valid: true}
}

// dead ones are refused first, whatever is asked for.
func deadOnes() []api.Cap {
	none, wrong := good(), good()
	none.Valid, wrong.Tag = false, 16
	return []api.Cap{{}, none, wrong, {Valid: true}}
}

// Promise 12.1.
func TestBounds(t *testing.T) {
	for _, x := range []struct {
		cur, n int
		err    api.Errno
	}{{40, 4, 0}, {40, 8, 0}, {40, 9, api.ErrBounds}, {32, 16, 0}, {47, 1, 0}, {48, 1, api.ErrBounds}, {31, 1, api.ErrBounds}, {40, 0, api.ErrInput}, {40, -1, api.ErrInput}, {99, 0, api.ErrInput}, {40, math.MaxInt, api.ErrBounds}, {40, math.MinInt, api.ErrInput}} {
		c := good()
		c.Cur = x.cur
		want := api.Cap{}
		if x.err == 0 {
			want = api.Cap{Base: x.cur, Len: x.n, Cur: x.cur, Perm: 19, Tag: 5, Valid: true}
		}
		if got, err := Bounds(c, x.n); err != x.err || got != want {
			t.Error(x, got, err)
		}
	}
	for _, c := range deadOnes() {
		if got, err := Bounds(c, 0); err != api.ErrDead || got != (api.Cap{}) {
			t.Error(c, got, err)
		}
	}
}

func TestDrop(t *testing.T) {
	for _, x := range []struct {
		p, left int
		err     api.Errno
	}{{0, 19, 0}, {1, 18, 0}, {31, 0, 0}, {12, 19, 0}, {17, 2, 0}, {32, 0, api.ErrInput}, {-1, 0, api.ErrInput}} {
		want := api.Cap{}
		if x.err == 0 {
			want = good()
			want.Perm = x.left
		}
		if got, err := Drop(good(), x.p); err != x.err || got != want {
			t.Error(x, got, err)
		}
	}
	for _, c := range deadOnes() {
		if got, err := Drop(c, 32); err != api.ErrDead || got != (api.Cap{}) {
			t.Error(c, got, err)
		}
	}
}

func TestMove(t *testing.T) {
	for _, x := range []struct {
		off int
		err api.Errno
	}{{0, 0}, {8, 0}, {16, 0}, {-5, 0}, {api.MaxOff, 0}, {-api.MaxOff, 0}, {api.MaxOff + 1, api.ErrBounds}, {-api.MaxOff - 1, api.ErrBounds}, {math.MaxInt, api.ErrBounds}, {math.MinInt, api.ErrBounds}} {
		want := api.Cap{}
		if x.err == 0 {
			want = good()
			want.Cur = 32 + x.off
		}
		if got, err := Move(good(), x.off); err != x.err || got != want {
			t.Error(x, got, err)
		}
	}
	for _, c := range deadOnes() {
		if got, err := Move(c, math.MaxInt); err != api.ErrDead || got != (api.Cap{}) {
			t.Error(c, got, err)
		}
	}
}
