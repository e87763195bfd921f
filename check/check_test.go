package check

import (
	"bytes"
	"cubbyhole/api"
	"cubbyhole/mem"
	"math"
	"testing"
)

// memory has the pages 1 and 2; the tag 5 from byte 272 to 335, but 6 from 320 on.
func memory() *mem.Mem {
	m := mem.New(9)
	m.Map(1, 2)
	m.SetTag(api.Span{Base: 272, Len: 48}, 5)
	m.SetTag(api.Span{Base: 320, Len: 16}, 6)
	m.Write(272, []byte("hello"))
	return m
}

func good() api.Cap {
	return api.Cap{Base: 272, Len: 60, Cur: 272, Perm: api.PermAll, Tag: 5, Valid: true}
}

func changed(change func(c *api.Cap)) api.Cap {
	c := good()
	change(&c)
	return c
}

var dead = []api.Cap{
	{}, changed(func(c *api.Cap) { c.Valid = false }), changed(func(c *api.Cap) { c.Tag = 6 }), changed(func(c *api.Cap) { c.Tag = 0 }), changed(func(c *api.Cap) { c.Base, c.Tag = 256, 0 }),
	changed(func(c *api.Cap) { c.Base = 256 }), changed(func(c *api.Cap) { c.Base = 0 }), changed(func(c *api.Cap) { c.Base = 320 }), changed(func(c *api.Cap) { c.Perm = 32 }), changed(func(c *api.Cap) { c.Cur = math.MaxInt }),
}

// Promise 13.1.
func TestAlive(t *testing.T) {
	m := memory()
	if !Alive(m, good()) || Live(m, good()) != good() || Alive(nil, good()) {
		t.Error("alive")
	}
	for i, c := range dead {
		if Alive(m, c) || Live(m, c) != (api.Cap{}) || Access(m, c, 1, api.PermLoad) != api.ErrDead || Access(m, c, -1, 99) != api.ErrDead {
			t.Error(i, c)
		}
	}
	m.SetTag(api.Span{Base: 272, Len: 1}, 4)
	if Alive(m, good()) || Access(m, good(), 1, 0) != api.ErrDead {
		t.Error("another tag")
	}
}

func TestAccess(t *testing.T) {
	m := memory()
	for _, x := range []struct {
		cur, n, have, p int
		err             api.Errno
	}{
		{272, 48, 31, 31, 0}, {272, 48, 1, 1, 0}, {272, 1, 2, 1, api.ErrPerm}, {272, 1, 3, 7, api.ErrPerm}, {272, 1, 31, 32, api.ErrPerm}, {272, 1, 31, -1, api.ErrPerm}, {272, 0, 0, 0, 0},
		{272, 99, 2, 1, api.ErrPerm}, {272, 61, 31, 1, api.ErrBounds}, {271, 1, 31, 1, api.ErrBounds}, {272, -1, 31, 1, api.ErrBounds}, {332, 1, 31, 1, api.ErrBounds}, {333, 0, 31, 1, api.ErrBounds}, {272, math.MaxInt, 31, 1, api.ErrBounds},
		{272, 49, 31, 1, api.ErrDead}, {320, 1, 31, 1, api.ErrDead}, {319, 1, 31, 1, 0}, {332, 0, 31, 1, 0}, {325, 0, 31, 1, 0},
	} {
		c := good()
		c.Cur, c.Perm = x.cur, x.have
		if err := Access(m, c, x.n, x.p); err != x.err {
			t.Error(x, err)
		}
	}
}

func TestLoadAndStore(t *testing.T) {
	m := memory()
	for _, x := range []struct {
		cur, n, perm int
		load, store  api.Errno
	}{{272, 5, 3, 0, 0}, {272, 0, 3, 0, 0}, {272, 5, 1, 0, api.ErrPerm}, {272, 5, 2, api.ErrPerm, 0}, {272, 61, 3, api.ErrBounds, api.ErrBounds}, {310, 20, 3, api.ErrDead, api.ErrDead}, {275, 2, 31, 0, 0}} {
		c := good()
		c.Cur, c.Perm = x.cur, x.perm
		was, _ := m.Read(api.Span{Base: 256, Len: 512})
		b, err := Load(m, c, x.n)
		if err != x.load || err == 0 && !bytes.Equal(b, was[x.cur-256:x.cur-256+x.n]) || err != 0 && b != nil {
			t.Error(x, b, err)
		}
		data := bytes.Repeat([]byte{byte(x.cur), 7}, x.n)[:x.n]
		if err := Store(m, c, data); err != x.store {
			t.Error(x, err)
		}
		if x.store == 0 {
			copy(was[x.cur-256:], data)
		}
		if now, _ := m.Read(api.Span{Base: 256, Len: 512}); !bytes.Equal(now, was) {
			t.Error("written", x)
		}
	}
	if _, err := Load(m, good(), -1); err != api.ErrBounds {
		t.Error(err)
	}
	if b, err := Load(m, dead[0], 1); err != api.ErrDead || b != nil || Store(m, dead[0], []byte{1}) != api.ErrDead || Store(nil, good(), []byte{1}) != api.ErrDead {
		t.Error("dead")
	}
	m.Keep(288, make([]byte, 16))
	c := good()
	c.Cur = 290
	if Store(m, c, nil) != 0 || m.Caps() != 1 || Store(m, c, []byte{1}) != 0 || m.Caps() != 0 {
		t.Error("what is kept")
	}
}
