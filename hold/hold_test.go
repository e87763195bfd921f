package hold

import (
	"bytes"
	"cubbyhole/api"
	"cubbyhole/code"
	"cubbyhole/mem"
	"testing"
)

// memory has page 1; the tag 5 from byte 272 to 335, the tag 6 behind.
func memory() *mem.Mem {
	m := mem.New(9)
	m.Map(1, 1)
	m.SetTag(api.Span{Base: 272, Len: 64}, 5)
	m.SetTag(api.Span{Base: 336, Len: 32}, 6)
	m.Fill(api.Span{Base: 256, Len: 256}, 7)
	return m
}

func at(cur, perm int) api.Cap {
	return api.Cap{Base: 272, Len: 72, Cur: cur, Perm: perm, Tag: 5, Valid: true}
}

var other = api.Cap{Base: 340, Len: 10, Cur: 300, Perm: 3, Tag: 6, Valid: true}

// Promise 14.1.
func TestRefused(t *testing.T) {
	m := memory()
	for _, x := range []struct {
		c           api.Cap
		load, store api.Errno
	}{
		{at(272, api.PermLoadCap), 0, api.ErrPerm}, {at(320, api.PermStoreCap), api.ErrPerm, 0}, {at(288, 23), 0, api.ErrPerm}, {at(288, 27), api.ErrPerm, 0}, {api.Cap{}, api.ErrDead, api.ErrDead},
		{at(273, 31), api.ErrAlign, api.ErrAlign}, {at(273, 3), api.ErrPerm, api.ErrPerm}, {at(332, 31), api.ErrBounds, api.ErrBounds}, {at(336, 31), api.ErrBounds, api.ErrBounds}, {at(328, 31), api.ErrDead, api.ErrDead}, {at(256, 31), api.ErrBounds, api.ErrBounds},
	} {
		if v, err := Load(m, x.c); err != x.load || v != (api.Cap{}) {
			t.Error("Load", x, v, err)
		}
		m = memory()
		if err := Store(m, x.c, other); err != x.store {
			t.Error("Store", x, err)
		}
		if x.store != 0 && !mem.Same(m, memory()) {
			t.Error("changed", x)
		}
		m = memory()
	}
	if _, err := Load(nil, at(272, 31)); err != api.ErrDead || Store(nil, at(272, 31), other) != api.ErrDead {
		t.Error("of none")
	}
}

func TestStoreAndLoad(t *testing.T) {
	m := memory()
	c := at(288, 31)
	if Store(m, c, other) != 0 {
		t.Error("Store")
	}
	if k, ok := m.Kept(18); !ok || !bytes.Equal(k, code.Bytes(other)) {
		t.Error(k)
	}
	if v, err := Load(m, c); err != 0 || v != other {
		t.Error(v, err)
	}
	if b, _ := m.Read(api.Span{Base: 288, Len: 16}); !bytes.Equal(b, make([]byte, 16)) {
		t.Error(b)
	}
	m.SetTag(api.Span{Base: 336, Len: 16}, 9)
	if v, err := Load(m, c); err != 0 || v != (api.Cap{}) {
		t.Error("not alive", v, err)
	}
	m.SetTag(api.Span{Base: 336, Len: 16}, 6)
	if v, _ := Load(m, c); v != other {
		t.Error("alive again", v)
	}
	m.Write(290, []byte{0})
	if v, err := Load(m, c); err != 0 || v != (api.Cap{}) {
		t.Error("written over", v, err)
	}
}

func TestWhatIsNoneIsNotKept(t *testing.T) {
	dead, wrong := other, other
	dead.Tag, wrong.Perm = 7, 99
	for _, v := range []api.Cap{{}, dead, wrong} {
		m := memory()
		c := at(288, 31)
		Store(m, c, other)
		if Store(m, c, v) != 0 || m.Caps() != 0 {
			t.Error(v)
		}
		if b, _ := m.Read(api.Span{Base: 287, Len: 18}); !bytes.Equal(b, append(append([]byte{7}, make([]byte, 16)...), 7)) {
			t.Error(b)
		}
		m.Fill(api.Span{Base: 288, Len: 16}, 7)
		if Store(m, c, v) != 0 {
			t.Error(v)
		}
		if b, _ := m.Read(api.Span{Base: 288, Len: 16}); !bytes.Equal(b, make([]byte, 16)) {
			t.Error("noughts", b)
		}
	}
	m := memory()
	m.Keep(288, []byte("0123456789abcdef"))
	if v, err := Load(m, at(288, 31)); err != 0 || v != (api.Cap{}) {
		t.Error("none's bytes", v, err)
	}
}
