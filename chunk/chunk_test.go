package chunk

import (
	"bytes"
	"cubbyhole/api"
	"cubbyhole/head"
	"cubbyhole/mem"
	"math"
	"testing"
)

var good = api.Head{State: api.StateLive, Class: 2, Tag: 5, Size: 40, Epoch: 9}

func chunks() Chunks {
	m := mem.New(9)
	m.Map(1, 1)
	return Chunks{M: m, Key: 7}
}

func of(base, n int) api.Span { return api.Span{Base: base, Len: n} }

// Promise 21.1.
func TestPutAndGet(t *testing.T) {
	c := chunks()
	c.M.SetTag(of(256, 256), 9)
	c.M.Keep(288, make([]byte, 16))
	if c.Put(304, good) != 0 || c.M.Tag(288) != 0 || c.M.Tag(287) != 9 || c.M.Tag(304) != 9 || c.M.Caps() != 0 {
		t.Error("Put")
	}
	if b, _ := c.M.Read(of(288, 16)); !bytes.Equal(b, head.Bytes(7, 304, good)) {
		t.Error(b)
	}
	if h, err := c.Get(304); h != good || err != 0 {
		t.Error(h, err)
	}
	if h, err := (Chunks{M: c.M, Key: 8}).Get(304); h != (api.Head{}) || err != api.ErrCorrupt {
		t.Error("another key", h, err)
	}
	if c.Put(272, good) != 0 || c.Put(512, good) != 0 {
		t.Error("the first and the last")
	}
	c.M.Write(300, []byte{0x11})
	if h, err := c.Get(304); h != (api.Head{}) || err != api.ErrCorrupt {
		t.Error("bent", h, err)
	}
}

func TestErrors(t *testing.T) {
	c := chunks()
	wrong := good
	wrong.State = 0
	for _, x := range []struct {
		at  int
		err api.Errno
	}{{0, api.ErrInput}, {-16, api.ErrInput}, {280, api.ErrInput}, {8, api.ErrInput}, {256, api.ErrMapped}, {16, api.ErrMapped}, {528, api.ErrMapped}, {api.MaxBytes, api.ErrMapped}, {api.MaxBytes + 16, api.ErrInput}, {math.MaxInt, api.ErrInput}, {math.MinInt, api.ErrInput}, {math.MaxInt - 15, api.ErrInput}} {
		h, err := c.Get(x.at)
		if err != x.err || h != (api.Head{}) || c.Put(x.at, good) != x.err {
			t.Error(x, h, err)
		}
	}
	if c.Put(304, wrong) != api.ErrInput || c.Put(16, wrong) != api.ErrInput || (Chunks{}).Put(304, good) != api.ErrInput {
		t.Error("Put")
	}
	if _, err := c.Get(304); err != api.ErrCorrupt {
		t.Error(err)
	}
	if _, err := (Chunks{}).Get(304); err != api.ErrInput {
		t.Error(err)
	}
}

func TestBeside(t *testing.T) {
	c := chunks()
	for g := range 16 {
		c.M.SetTag(of(256+16*g, 1), g)
	}
	for _, x := range [][4]int{ // at, n, ahead, behind
		{304, 32, 1, 6}, {304, 17, 1, 6}, {304, 16, 1, 5}, {304, 1, 1, 5}, {288, 16, 0, 4}, {272, 16, 0, 3}, {496, 16, 13, 0}, {480, 16, 12, 0}, {464, 16, 11, 15}, {512, 16, 14, 0},
		{math.MaxInt, math.MaxInt, 0, 0}, {math.MinInt, math.MinInt, 0, 0}, {304, math.MaxInt, 1, 4}, {-16, 16, 0, 0},
	} {
		a, b := c.Beside(x[0], x[1])
		if x[1] == math.MaxInt {
			continue // how far that is no int tells: it ends, and does not panic
		}
		if a != x[2] || b != x[3] {
			t.Error(x, a, b)
		}
	}
	if a, b := (Chunks{}).Beside(304, 16); a != 0 || b != 0 {
		t.Error(a, b)
	}
}

func TestRetag(t *testing.T) {
	c := chunks()
	c.M.SetTag(of(272, 16), 1)
	c.M.SetTag(of(336, 16), 3)
	// 304 to 319: 1 ahead, 3 behind, 2 had: 4 to 15 are left
	for draw, want := range map[int]int{0: 4, 11: 15, 12: 4, -1: 15} {
		tag, err := c.Retag(304, 16, 2, draw)
		if tag != want || err != 0 || !c.M.Tagged(of(304, 16), want) || c.M.Tag(288) != 0 || c.M.Tag(320) != 0 {
			t.Error(draw, tag, err)
		}
	}
	if tag, err := c.Retag(304, 100, 0, 0); tag != 2 || err != 0 || !c.M.Tagged(of(304, 112), 2) || c.M.Tag(416) != 0 {
		t.Error(tag, err)
	}
	for _, x := range []struct {
		at, n int
		err   api.Errno
	}{{304, 0, api.ErrInput}, {304, -1, api.ErrInput}, {-16, 16, api.ErrInput}, {304, math.MaxInt, api.ErrInput}, {500, 16, api.ErrMapped}, {1024, 16, api.ErrMapped}} {
		if tag, err := c.Retag(x.at, x.n, 0, 0); tag != 0 || err != x.err {
			t.Error(x, tag, err)
		}
	}
	if _, err := (Chunks{}).Retag(304, 16, 0, 0); err != api.ErrInput {
		t.Error(err)
	}
}
