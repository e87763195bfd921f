package second

import (
	"cubbyhole/api"
	"cubbyhole/chunk"
	"cubbyhole/mem"
	"math"
	"slices"
	"testing"
)

func area(first, pages int) api.Area { return api.Area{First: first, Pages: pages} }

func made(pages, most, shelf int) (*Second, *mem.Mem) {
	m := mem.New(most)
	return New(chunk.Chunks{M: m, Key: 7}, area(10, pages), shelf), m
}

// bytes is how many bytes need so many pages.
func bytes(pages int) int { return pages*256 - 16 }

func take(t *testing.T, x *Second, pages int) api.Large {
	t.Helper()
	l, err := x.Take(bytes(pages), 1)
	if err != 0 {
		t.Fatal(err)
	}
	return l
}

// Promise 32.1.
func TestTakeNew(t *testing.T) {
	x, m := made(20, 20, 2)
	l, err := x.Take(300, 1)
	if l != (api.Large{At: 11*256 + 16, First: 11, Pages: 2, Room: 496}) || err != 0 || !slices.Equal(m.List(), []int{11, 12}) || x.Widest() != 16 {
		t.Error(l, err, m.List())
	}
	if h, err := (chunk.Chunks{M: m, Key: 7}).Get(l.At); h != (api.Head{State: api.StateFree, Class: api.LargeClass}) || err != 0 {
		t.Error(h, err)
	}
	k, err := x.Take(10, 256)
	if k != (api.Large{At: 16 * 256, First: 15, Pages: 2, Room: 256}) || err != 0 {
		t.Error("a guard on both sides", k, err)
	}
	if got, ok := x.Get(l.At); got != l || !ok {
		t.Error(got, ok)
	}
	if got, ok := x.Get(l.At + 16); got != (api.Large{}) || ok {
		t.Error(got, ok)
	}
	all := x.All()
	if !slices.Equal(all, []api.Large{l, k}) {
		t.Error(all)
	}
	all[0] = api.Large{}
	if x.All()[0] != l {
		t.Error("not the caller's own")
	}
}

func TestErrors(t *testing.T) {
	for _, a := range []api.Area{{}, area(-1, 5), area(0, 1025), area(5, 0)} {
		if New(chunk.Chunks{M: mem.New(9)}, a, 2) != nil {
			t.Error(a)
		}
	}
	x, m := made(9, 5, 2)
	for _, e := range []struct {
		n, align int
		err      api.Errno
	}{{0, 1, api.ErrInput}, {1, 3, api.ErrInput}, {1, 512, api.ErrInput}, {api.MaxLarge + 1, 1, api.ErrBig}, {bytes(8), 1, api.ErrMemory}, {bytes(7), 1, api.ErrPages}, {bytes(6), 1, api.ErrPages}, {math.MinInt, 1, api.ErrInput}, {bytes(5), 1, 0}, {1, 1, api.ErrMemory}} {
		l, err := x.Take(e.n, e.align)
		if err != e.err || (err == 0) != (l != api.Large{}) {
			t.Error(e, l, err)
		}
	}
	if m.Used() != 5 || m.Peak() != 5 || len(x.All()) != 1 || x.Widest() != 2 {
		t.Error(m.List(), x.Widest())
	}
	for _, at := range []int{0, -1, 16, math.MaxInt, math.MinInt} {
		if x.Give(at) != api.ErrNone {
			t.Error(at)
		}
	}
}

func TestShelf(t *testing.T) {
	x, m := made(30, 30, 2)
	a, b, c := take(t, x, 2), take(t, x, 3), take(t, x, 5)
	m.SetTag(api.Span{Base: a.At, Len: a.Room}, 5)
	if x.Give(a.At) != 0 || x.Give(a.At) != api.ErrNone || !slices.Equal(x.Shelf(), []api.Area{area(11, 2)}) || m.Used() != 10 || len(x.All()) != 2 {
		t.Error(x.Shelf(), m.Used())
	}
	if _, ok := x.Get(a.At); ok {
		t.Error("given back")
	}
	if again := take(t, x, 2); again != a || !m.Tagged(api.Span{Base: 11 * 256, Len: 512}, 0) || len(x.Shelf()) != 0 {
		t.Error("the same pages", again, x.Shelf())
	}
	x.Give(b.At)
	// three pages for one that needs two: its room is that of two
	if l := take(t, x, 2); l != (api.Large{At: b.At, First: b.First, Pages: 3, Room: 496}) {
		t.Error(l)
	}
	x.Give(b.At)
	if s := x.Shelf(); !slices.Equal(s, []api.Area{area(15, 3)}) {
		t.Error("all of them", s)
	}
	// one page is not for three
	if l := take(t, x, 1); l.First == b.First {
		t.Error(l)
	}
	x.Give(c.At)
	x.Give(a.At)
	if !slices.Equal(x.Shelf(), []api.Area{area(20, 5), area(11, 2)}) || m.Has(15) || x.Widest() != 11 {
		t.Error("the first that came goes", x.Shelf(), m.List(), x.Widest())
	}
	if n := x.Release(); n != 7 || len(x.Shelf()) != 0 || m.Used() != 1 || x.Widest() != 16 || x.Release() != 0 {
		t.Error(n, m.List(), x.Widest())
	}
}

func TestNoShelf(t *testing.T) {
	x, m := made(30, 30, 0)
	a := take(t, x, 2)
	if x.Give(a.At) != 0 || len(x.Shelf()) != 0 || m.Used() != 0 || x.Widest() != 30 {
		t.Error(x.Shelf(), m.List())
	}
}

func TestShelfGoesForAGap(t *testing.T) {
	x, m := made(14, 30, 4)
	a, b, c := take(t, x, 2), take(t, x, 2), take(t, x, 2) // 10 to 13, 14 to 17, 18 to 21; 22 and 23 are left
	x.Give(c.At)
	x.Give(a.At)
	x.Give(b.At)
	// five pages and two guards: c goes first (18 to 23 are 6), then a (10 to 13), then b
	if _, err := x.Take(bytes(13), 1); err != api.ErrMemory || len(x.Shelf()) != 3 || m.Used() != 6 {
		t.Error("all stays", err, x.Shelf())
	}
	if l := take(t, x, 5); l.First != 11 || len(x.Shelf()) != 0 || m.Used() != 5 {
		t.Error(l, x.Shelf(), m.List())
	}
	x.Give(11*256 + 16)
	x.Release()
	a, b, c = take(t, x, 2), take(t, x, 1), take(t, x, 3) // 10 to 13, 14 to 16, 17 to 21; 22 and 23 are left
	x.Give(a.At)
	x.Give(c.At)
	// a goes, and is enough for none; c goes: 17 to 23
	if l := take(t, x, 5); l.First != 18 || len(x.Shelf()) != 0 {
		t.Error(l, x.Shelf())
	}
	x.Give(18*256 + 16)
	x.Release()
	c = take(t, x, 5)
	x.Give(b.At)
	x.Give(c.At)
	// b goes: 10 to 16 are enough for four
	if l := take(t, x, 2); l.First != 11 || !slices.Equal(x.Shelf(), []api.Area{area(15, 1), area(18, 5)}) {
		t.Error("a gap that there is", l, x.Shelf())
	}
}

func TestShelfGoesForPages(t *testing.T) {
	x, m := made(60, 10, 4)
	a, b, c := take(t, x, 2), take(t, x, 3), take(t, x, 4)
	x.Give(b.At)
	x.Give(a.At)
	if _, err := x.Take(bytes(7), 1); err != api.ErrPages || len(x.Shelf()) != 2 || m.Used() != 9 {
		t.Error("all stays", err, x.Shelf())
	}
	// one page is left, and b's three
	if l := take(t, x, 4); l.First != c.First+6 || !slices.Equal(x.Shelf(), []api.Area{area(a.First, 2)}) || m.Used() != 10 || m.Peak() != 10 || m.Has(b.First) {
		t.Error(l, x.Shelf(), m.List())
	}
}

func TestNone(t *testing.T) {
	var x *Second
	l, err := x.Take(1, 1)
	_, ok := x.Get(16)
	if l != (api.Large{}) || err != api.ErrInput || x.Give(16) != api.ErrNone || ok || x.All() != nil || x.Shelf() != nil || x.Widest() != 0 || x.Release() != 0 {
		t.Error("of none")
	}
}
