package barrier

import (
	"cubbyhole/api"
	"cubbyhole/code"
	"cubbyhole/mem"
	"cubbyhole/paint"
	"cubbyhole/regs"
	"testing"
)

func of(base, n int) api.Span { return api.Span{Base: base, Len: n} }

func one(base, n int) api.Cap {
	return api.Cap{Base: base, Len: n, Cur: base, Perm: 31, Tag: 3, Valid: true}
}

// place has page 1, all of it with the tag 3, and four registers; the bytes 320 to 351 are painted.
func place() Place {
	x := Place{M: mem.New(9), R: regs.New(4), P: paint.New()}
	x.M.Map(1, 1)
	x.M.SetTag(of(256, 256), 3)
	x.M.Fill(of(256, 256), 7)
	x.P.Put(of(320, 32))
	return x
}

var (
	fine    = one(256, 64)
	painted = one(336, 32)
	dead    = api.Cap{Base: 256, Len: 64, Cur: 256, Perm: 31, Tag: 4, Valid: true}
)

// Promise 37.1.
func TestGood(t *testing.T) {
	x := place()
	for _, c := range []api.Cap{fine, one(352, 16), one(256, 1)} {
		if x.Good(c) != c {
			t.Error(c)
		}
	}
	wrong := fine
	wrong.Perm = 32
	for _, c := range []api.Cap{painted, dead, wrong, {}, one(256, 65), one(351, 2), one(0, 1), {Base: 5}} {
		if x.Good(c) != (api.Cap{}) {
			t.Error(c)
		}
	}
	if (Place{}).Good(fine) != (api.Cap{}) {
		t.Error("no memory")
	}
}

func TestGetAndPut(t *testing.T) {
	x := place()
	if x.Put(0, fine) != 0 || x.Put(1, painted) != 0 || x.Put(2, api.Cap{Base: 5}) != 0 || x.R.Count() != 1 {
		t.Error("Put", x.R.List())
	}
	x.R.Put(1, painted)
	x.R.Put(2, dead)
	for h, want := range []api.Cap{fine, {}, {}, {}} {
		if c, err := x.Get(h); c != want || err != 0 {
			t.Error(h, c, err)
		}
	}
	if x.R.Count() != 3 {
		t.Error("what is told is not cleared")
	}
	if x.Put(0, painted) != 0 || x.R.Count() != 2 {
		t.Error("none is put over one")
	}
	for _, h := range []int{-1, 4} {
		if c, err := x.Get(h); c != (api.Cap{}) || err != api.ErrHandle || x.Put(h, fine) != api.ErrHandle || x.Put(h, api.Cap{Base: 5}) != api.ErrHandle {
			t.Error(h, c, err)
		}
	}
}

func TestLoadAndStore(t *testing.T) {
	x := place()
	if x.Store(fine, one(400, 9)) != 0 {
		t.Error("Store")
	}
	if v, err := x.Load(fine); v != one(400, 9) || err != 0 {
		t.Error(v, err)
	}
	for _, v := range []api.Cap{painted, dead, {}} {
		x.M.Fill(of(256, 16), 7)
		if x.Store(fine, v) != 0 || x.M.Caps() != 0 || x.M.Fill(of(272, 1), 7) != 0 {
			t.Error(v)
		}
		if b, _ := x.M.Read(of(256, 16)); string(b) != string(make([]byte, 16)) {
			t.Error("noughts", b)
		}
		x.M.Keep(256, code.Bytes(v))
		if got, err := x.Load(fine); got != (api.Cap{}) || err != 0 {
			t.Error(got, err)
		}
		x.M.Clear(16)
	}
	for _, c := range []api.Cap{painted, dead, {}} {
		if v, err := x.Load(c); v != (api.Cap{}) || err != api.ErrDead || x.Store(c, fine) != api.ErrDead {
			t.Error(c, v, err)
		}
	}
	odd := fine
	odd.Cur++
	if v, err := x.Load(odd); v != (api.Cap{}) || err != api.ErrAlign || x.Store(odd, fine) != api.ErrAlign {
		t.Error(v, err)
	}
}

func TestReadAndWrite(t *testing.T) {
	x := place()
	if b, err := x.Read(fine, 2); string(b) != "\x07\x07" || err != 0 || x.Write(fine, []byte("ab")) != 0 {
		t.Error(b, err)
	}
	if b, err := x.Read(fine, 3); string(b) != "ab\x07" || err != 0 {
		t.Error(b, err)
	}
	if b, err := x.Read(fine, 65); b != nil || err != api.ErrBounds || x.Write(fine, make([]byte, 65)) != api.ErrBounds {
		t.Error(b, err)
	}
	for _, c := range []api.Cap{painted, dead, {}} {
		if b, err := x.Read(c, 1); b != nil || err != api.ErrDead || x.Write(c, []byte{1}) != api.ErrDead {
			t.Error(c, b, err)
		}
	}
	if b, _ := x.M.Read(of(336, 1)); b[0] != 7 {
		t.Error("written")
	}
}
