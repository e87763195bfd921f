package region

import (
	"cubbyhole/api"
	"cubbyhole/chunk"
	"cubbyhole/draw"
	"cubbyhole/mem"
	"math"
	"slices"
	"testing"
)

func chunks(most int) chunk.Chunks { return chunk.Chunks{M: mem.New(most), Key: 7} }

// plain draws the order in which nothing changes.
func plain() *draw.Draws {
	l := make([]int, 10000)
	for i := range l {
		l[i] = -1
	}
	return draw.New(l)
}

// Promise 26.1.
func TestNew(t *testing.T) {
	for _, x := range []struct {
		class, first, pages int
	}{{-1, 0, 5}, {20, 0, 5}, {63, 0, 5}, {0, -1, 5}, {0, 0, 0}, {0, 0, -1}, {0, 1020, 5}, {0, 0, 1025}, {0, 1024, 1}, {0, 1, math.MaxInt}, {0, math.MaxInt, 1}} {
		if New(x.class, api.Area{First: x.first, Pages: x.pages}, 4) != nil {
			t.Error(x)
		}
	}
	r := New(0, api.Area{First: 3, Pages: 5}, 4)
	if r.Class() != 0 || r.Most() != 40 || r.Made() != 0 || r.Free() != 0 || len(r.List()) != 0 || r.Is(0) {
		t.Error("new")
	}
	if New(19, api.Area{First: 1019, Pages: 5}, 4).Most() != 1 || New(19, api.Area{Pages: 4}, 4).Most() != 0 {
		t.Error("whole ones")
	}
}

func TestPlaces(t *testing.T) {
	r := New(2, api.Area{First: 3, Pages: 2}, 4) // blocks of 64
	for place := range 8 {
		at := 768 + 64*place + 16
		if r.At(place) != at || r.Place(at) != place || r.Place(at+16) != -1 || r.Place(at-16) != -1 || r.Place(at+1) != -1 {
			t.Error(place)
		}
	}
	for _, x := range []int{-1, 8, math.MaxInt, math.MinInt} {
		if r.At(x) != -1 || r.Is(x) {
			t.Error(x)
		}
	}
	for _, at := range []int{0, 16, 768, 720, 768 + 64*8 + 16, math.MaxInt, math.MinInt, -48} {
		if r.Place(at) != -1 {
			t.Error(at)
		}
	}
	if none := New(19, api.Area{Pages: 4}, 4); none.At(0) != -1 || none.Place(16) != -1 {
		t.Error("no places")
	}
}

func TestTake(t *testing.T) {
	c := chunks(9)
	r := New(2, api.Area{First: 3, Pages: 2}, 3)
	l, err := r.Take(c, draw.New([]int{0, 1})) // the third changes with the first
	if err != 0 || !slices.Equal(l, []int{912, 848, 784}) || r.Made() != 3 || r.Free() != 0 || !slices.Equal(r.Pages(c), []int{3}) {
		t.Error(l, err, r.Made(), r.Pages(c))
	}
	if h, err := c.Get(784); h != (api.Head{State: api.StateFree, Class: 2}) || err != 0 {
		t.Error(h, err)
	}
	if !r.Is(0) || !r.Is(2) || r.Is(3) {
		t.Error("Is")
	}
	l, err = r.Take(c, plain())
	if err != 0 || !slices.Equal(l, []int{976, 1040, 1104}) || !slices.Equal(r.Pages(c), []int{3, 4}) {
		t.Error(l, err)
	}
	l, err = r.Take(c, plain())
	if err != 0 || !slices.Equal(l, []int{1168, 1232}) || r.Made() != 8 {
		t.Error("the last ones", l, err)
	}
	if l, err = r.Take(c, plain()); err != api.ErrMemory || l != nil {
		t.Error(l, err)
	}
	r.Give(784, 999, 848, 17, -1)
	if r.Free() != 2 || !slices.Equal(r.List(), []int{784, 848}) {
		t.Error(r.List())
	}
	d := plain()
	if l, err = r.Take(c, d); err != 0 || !slices.Equal(l, []int{784, 848}) || d.Left() != 10000 {
		t.Error("free ones first", l, err)
	}
}

func TestGiveOfWhatIsNotMade(t *testing.T) {
	c := chunks(9)
	r := New(2, api.Area{First: 3, Pages: 2}, 3)
	r.Take(c, plain())
	r.Give(784, 976, 848, 912)
	if !slices.Equal(r.List(), []int{784, 848, 912}) {
		t.Error(r.List())
	}
}

func TestPagesAreLeft(t *testing.T) {
	c := chunks(3)
	r := New(19, api.Area{First: 0, Pages: 16}, 4) // 1040 bytes: five pages
	if l, err := r.Take(c, plain()); err != api.ErrPages || l != nil || c.M.Used() != 0 || c.M.Peak() != 0 || r.Made() != 0 {
		t.Error(l, err, c.M.List())
	}
	c = chunks(6)
	d := draw.New([]int{0, 0, 0})
	l, err := r.Take(c, d)
	// the second one would need the pages 5 to 8
	if err != 0 || !slices.Equal(l, []int{16}) || c.M.Used() != 5 || d.Left() != 3 {
		t.Error(l, err, c.M.List())
	}
	if l, err = r.Take(c, d); err != api.ErrPages || l != nil || c.M.Used() != 5 || c.M.Peak() != 5 || r.Made() != 1 {
		t.Error(l, err)
	}
	just := chunks(5)
	if l, err := New(19, api.Area{Pages: 16}, 4).Take(just, d); err != 0 || len(l) != 1 || just.M.Used() != 5 {
		t.Error("just as many", l, err)
	}
	if l, err = r.Take(chunk.Chunks{}, d); err != api.ErrPages || l != nil {
		t.Error("no memory at all", l, err)
	}
}

func TestRelease(t *testing.T) {
	c := chunks(20)
	r := New(8, api.Area{First: 2, Pages: 5}, 16) // 176 bytes: 7 in 1232 bytes of 1280
	all, err := r.Take(c, plain())
	if err != 0 || len(all) != 7 || r.Most() != 7 || len(r.Pages(c)) != 5 {
		t.Fatal(all, err)
	}
	if r.Release(c) != 0 || r.Made() != 7 {
		t.Error("none is free")
	}
	// place 3 lies from 528 to 703, on the third page alone
	r.Give(all[0], all[1], all[2], all[4], all[5], all[6])
	if n := r.Release(c); n != 4 || !slices.Equal(r.Pages(c), []int{4}) || r.Made() != 1 || !r.Is(3) || r.Free() != 0 {
		t.Error(n, r.Pages(c), r.Made(), r.List())
	}
	if h, err := c.Get(all[3]); err != 0 || h.Class != 8 {
		t.Error("its header stays", h, err)
	}
	l, err := r.Take(c, plain())
	if err != 0 || !slices.Equal(l, []int{all[0], all[1], all[2], all[4], all[5], all[6]}) || r.Made() != 7 {
		t.Error("made again", l, err)
	}
	for _, at := range all {
		if _, err := c.Get(at); err != 0 {
			t.Error(at, err)
		}
	}
	r.Give(all...)
	if n := r.Release(c); n != 5 || r.Made() != 0 || r.Free() != 0 || c.M.Used() != 0 {
		t.Error(n)
	}
}

func TestReleaseAcrossPages(t *testing.T) {
	c := chunks(20)
	r := New(8, api.Area{First: 2, Pages: 5}, 16)
	all, _ := r.Take(c, plain())
	// place 1 has bytes on the first and the second page: both stay; so does what is free there
	r.Give(all[0], all[2], all[3], all[4], all[5], all[6])
	if n := r.Release(c); n != 3 || !slices.Equal(r.Pages(c), []int{2, 3}) || r.Made() != 2 || !slices.Equal(r.List(), []int{all[0]}) {
		t.Error(n, r.Pages(c), r.List())
	}
	// place 2 begins on the second page, that is there still
	if l, err := r.Take(c, plain()); err != 0 || !slices.Equal(l, []int{all[0]}) {
		t.Error(l, err)
	}
	if l, err := r.Take(c, plain()); err != 0 || len(l) != 5 || l[0] != all[2] {
		t.Error(l, err)
	}
}

func TestReleaseOfPagesWithoutChunks(t *testing.T) {
	c := chunks(20)
	r := New(8, api.Area{First: 2, Pages: 5}, 16)
	c.M.Map(1, 3)
	c.M.Map(7, 1)
	if !slices.Equal(r.Pages(c), []int{2, 3}) || r.Release(c) != 2 || !slices.Equal(c.M.List(), []int{1, 7}) {
		t.Error(c.M.List())
	}
}

func TestAPageInTheMiddle(t *testing.T) {
	c := chunks(20)
	r := New(13, api.Area{First: 0, Pages: 5}, 1) // 400 bytes; place 1 from 400 to 799, place 2 from 800
	r.Take(c, plain())
	second, _ := r.Take(c, plain())
	r.Take(c, plain())
	r.Give(second...)
	if n := r.Release(c); n != 1 || c.M.Has(2) || r.Is(1) || !r.Is(2) {
		t.Error(n, c.M.List())
	}
}

func TestNone(t *testing.T) {
	var r *Region
	c := chunks(9)
	r.Give(16)
	l, err := r.Take(c, nil)
	if r.Class() != -1 || r.Most() != 0 || r.Made() != 0 || r.Free() != 0 || r.Is(0) || r.At(0) != -1 || r.Place(16) != -1 || l != nil || err != api.ErrInput || r.List() != nil || r.Pages(c) != nil || r.Release(c) != 0 {
		t.Error("of none")
	}
}
