package mem

import (
	"bytes"
	"cubbyhole/api"
	"math"
	"testing"
)

func of(base, n int) api.Span { return api.Span{Base: base, Len: n} }

var granule = []byte("0123456789abcdef")

// wrong may not be: each is refused with ErrInput.
var wrong = []api.Span{{}, {Base: 300}, {Base: 300, Len: -1}, {Base: -1, Len: 2}, {Base: api.MaxBytes, Len: 1}, {Base: 300, Len: math.MaxInt}, {Base: math.MinInt, Len: math.MinInt}}

// Promise 8.1.
func TestPages(t *testing.T) {
	m := New(2)
	if m.Map(0, 3) != api.ErrPages || m.Map(1, 2) != api.OK || m.Map(2, 1) != api.ErrMapped || m.Map(-1, 1) != api.ErrInput || m.Unmap(3, 1) != api.ErrMapped || m.Unmap(3, 0) != api.ErrInput {
		t.Error("pages' errors")
	}
	if !m.Has(1) || m.Has(0) || !m.Whole(1, 2) || m.Whole(0, 2) || m.Used() != 2 || m.Most() != 2 || m.Peak() != 2 || len(m.List()) != 2 || m.Pages.Next(0) != 1 {
		t.Error("pages' calls")
	}
	for _, x := range []struct {
		s    api.Span
		open bool
	}{{of(256, 512), true}, {of(255, 2), false}, {of(767, 1), true}, {of(767, 2), false}, {of(256, 0), false}} {
		if m.Open(x.s) != x.open {
			t.Error(x)
		}
	}
	for _, s := range wrong {
		if m.Open(s) {
			t.Error(s)
		}
	}
}

func TestNewPagesAreNew(t *testing.T) {
	m, fresh := New(9), New(9)
	m.Map(1, 3)
	m.Fill(of(256, 768), 7)
	m.SetTag(of(256, 768), 5)
	m.Keep(528, granule)
	m.Keep(800, granule)
	if m.Unmap(2, 1) != api.OK || m.Caps() != 1 || m.Tag(512) != -1 || m.Tag(511) != 5 || m.Tag(768) != 5 {
		t.Error("unmapped")
	}
	if _, err := m.Read(of(511, 2)); err != api.ErrMapped {
		t.Error(err)
	}
	m.Map(2, 1)
	m.Unmap(1, 1)
	m.Unmap(3, 1)
	fresh.Map(2, 1)
	if !Same(m, fresh) || m.Tag(512) != 0 || m.Caps() != 0 {
		t.Error("not new")
	}
}

func TestReadWriteFill(t *testing.T) {
	m := New(9)
	m.Map(1, 1)
	for _, s := range wrong {
		_, err := m.Read(s)
		if err != api.ErrInput || m.Fill(s, 1) != api.ErrInput || m.SetTag(s, 1) != api.ErrInput || m.Tagged(s, 0) {
			t.Error(s, err)
		}
	}
	if m.Write(300, nil) != api.ErrInput || m.Write(-1, granule) != api.ErrInput || m.Write(math.MaxInt, granule) != api.ErrInput || m.Write(api.MaxBytes-15, granule) != api.ErrInput {
		t.Error("ErrInput")
	}
	if m.Write(500, granule) != api.ErrMapped || m.Fill(of(255, 2), 1) != api.ErrMapped || m.SetTag(of(511, 2), 1) != api.ErrMapped {
		t.Error("ErrMapped")
	}
	b := bytes.Clone(granule)
	if m.Write(496, b) != api.OK || m.Fill(of(500, 2), 'x') != api.OK {
		t.Error("Write")
	}
	clear(b)
	got, err := m.Read(of(494, 18))
	if err != api.OK || string(got) != "\x00\x000123xx6789abcdef" {
		t.Error(got, err)
	}
	clear(got)
	if again, _ := m.Read(of(496, 4)); string(again) != "0123" {
		t.Error("not the caller's own")
	}
}

func TestTags(t *testing.T) {
	m := New(9)
	m.Map(1, 1)
	if m.SetTag(of(271, 2), 5) != api.OK || m.Tag(256) != 5 || m.Tag(287) != 5 || m.Tag(288) != 0 || m.Tag(255) != -1 || m.Tag(512) != -1 || m.Tag(-1) != -1 || m.Tag(math.MaxInt) != -1 {
		t.Error("Tag")
	}
	if m.SetTag(of(256, 1), 16) != api.ErrInput || m.SetTag(of(256, 1), -1) != api.ErrInput || m.SetTag(of(0, 1), 16) != api.ErrInput || m.SetTag(of(0, 1), 3) != api.ErrMapped {
		t.Error("SetTag")
	}
	if !m.Tagged(of(260, 20), 5) || m.Tagged(of(260, 30), 5) || m.Tagged(of(255, 2), 5) || m.Tagged(of(0, 1), 0) || m.Tagged(of(260, 20), -1) {
		t.Error("Tagged")
	}
}

func TestKeep(t *testing.T) {
	m := New(9)
	m.Map(1, 1)
	m.Fill(of(256, 256), 7)
	for _, x := range []struct {
		at  int
		b   []byte
		err api.Errno
	}{{272, granule[:15], api.ErrInput}, {273, granule[:15], api.ErrInput}, {272, nil, api.ErrInput}, {273, granule, api.ErrAlign}, {-8, granule, api.ErrAlign}, {-16, granule, api.ErrInput}, {api.MaxBytes, granule, api.ErrInput}, {512, granule, api.ErrMapped}, {272, granule, api.OK}} {
		if err := m.Keep(x.at, x.b); err != x.err {
			t.Error(x, err)
		}
	}
	b, _ := m.Read(of(271, 18))
	if !bytes.Equal(b, append(append([]byte{7}, make([]byte, 16)...), 7)) {
		t.Error("apart from bytes", b)
	}
	k, ok := m.Kept(17)
	if !ok || !bytes.Equal(k, granule) || m.Caps() != 1 || m.Next(0) != 17 || m.Next(17) != 17 || m.Next(18) != -1 || m.Next(-9) != 17 {
		t.Error(k, ok)
	}
	clear(k)
	if k, _ = m.Kept(17); !bytes.Equal(k, granule) {
		t.Error("not the caller's own")
	}
	if k, ok = m.Kept(16); ok || k != nil {
		t.Error(k)
	}
	if !m.Clear(17) || m.Clear(17) || m.Clear(-1) || m.Caps() != 0 {
		t.Error("Clear")
	}
	if b, _ = m.Read(of(272, 16)); !bytes.Equal(b, make([]byte, 16)) {
		t.Error("noughts stay", b)
	}
}

func TestWrittenOver(t *testing.T) {
	m := New(9)
	m.Map(1, 1)
	for _, over := range []func(){func() { m.Write(287, []byte{1}) }, func() { m.Fill(of(260, 13), 1) }} {
		m.Keep(272, granule)
		m.Keep(288, granule)
		over()
		if _, ok := m.Kept(17); ok || m.Caps() != 1 {
			t.Error("kept still")
		}
	}
	m.Keep(272, granule)
	m.SetTag(of(272, 1), 3)
	m.Read(of(272, 1))
	if m.Write(510, []byte("abc")) != api.ErrMapped || m.Caps() != 2 {
		t.Error("kept no more")
	}
	m.Keep(272, bytes.Repeat([]byte{1}, 16))
	if k, _ := m.Kept(17); k[0] != 1 || m.Caps() != 2 {
		t.Error("kept anew")
	}
}

func TestSame(t *testing.T) {
	pair := func() (*Mem, *Mem) {
		a, b := New(9), New(7)
		for _, m := range []*Mem{a, b} {
			m.Map(1, 2)
			m.Write(300, granule)
			m.SetTag(of(300, 1), 3)
			m.Keep(512, granule)
		}
		return a, b
	}
	a, b := pair()
	if !Same(a, b) || !Same(b, a) || !Same(a, a) || Same(a, nil) || Same(nil, a) || Same(nil, nil) {
		t.Error("Same")
	}
	for i, change := range []func(m *Mem){
		func(m *Mem) { m.Map(5, 1) }, func(m *Mem) { m.Unmap(1, 1) }, func(m *Mem) { m.Write(700, []byte{1}) }, func(m *Mem) { m.SetTag(of(700, 1), 1) },
		func(m *Mem) { m.Clear(32) }, func(m *Mem) { m.Keep(512, make([]byte, 16)) }, func(m *Mem) { m.Keep(528, granule) },
		func(m *Mem) { m.Clear(32); m.Keep(528, granule) },
	} {
		a, b = pair()
		change(b)
		if Same(a, b) || Same(b, a) {
			t.Error(i)
		}
	}
}

func TestSameInTheFirstGranule(t *testing.T) {
	a, b := New(9), New(9)
	a.Map(0, 2)
	b.Map(0, 2)
	a.Keep(0, granule)
	b.Keep(0, make([]byte, 16))
	if Same(a, b) {
		t.Error("what is kept")
	}
	b.Keep(0, granule)
	a.Keep(16, granule)
	b.Keep(16, make([]byte, 16))
	if Same(a, b) {
		t.Error("what is kept behind")
	}
	b.Clear(1)
	b.Keep(32, granule)
	if Same(a, b) || Same(b, a) {
		t.Error("where it is kept")
	}
}

func TestNone(t *testing.T) {
	var m *Mem
	_, err := m.Read(of(0, 1))
	_, ok := m.Kept(0)
	if m.Map(0, 1) != api.ErrInput || m.Unmap(0, 1) != api.ErrInput || m.Open(of(0, 1)) || err != api.ErrInput || m.Write(0, granule) != api.ErrInput || m.Fill(of(0, 1), 1) != api.ErrInput || m.Tag(0) != -1 || m.SetTag(of(0, 1), 1) != api.ErrInput || m.Tagged(of(0, 1), 0) || m.Keep(1, granule) != api.ErrInput || ok || m.Clear(0) || m.Next(0) != -1 || m.Caps() != 0 {
		t.Error("of none")
	}
	if m.Has(0) || m.Whole(0, 1) || m.Used() != 0 || m.Most() != 0 || m.Peak() != 0 || m.List() != nil {
		t.Error("pages of none")
	}
}
