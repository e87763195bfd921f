package guard

import (
	"cubbyhole/api"
	"math"
	"testing"
)

// Promise 29.1.
func TestNeed(t *testing.T) {
	for _, x := range []struct {
		n, align, pages int
		err             api.Errno
	}{
		{240, 1, 1, 0}, {241, 1, 2, 0}, {240, 16, 1, 0}, {240, 32, 2, 0}, {224, 32, 1, 0}, {1, 256, 2, 0}, {256, 256, 2, 0}, {257, 256, 3, 0}, {1, 1, 1, 0}, {1, 128, 1, 0}, {129, 128, 2, 0},
		{api.MaxLarge, 1, 65, 0}, {api.MaxLarge + 1, 1, 0, api.ErrBig}, {math.MaxInt, 1, 0, api.ErrBig}, {math.MaxInt, 3, 0, api.ErrInput},
		{0, 1, 0, api.ErrInput}, {-1, 1, 0, api.ErrInput}, {1, 0, 0, api.ErrInput}, {1, 3, 0, api.ErrInput}, {1, 512, 0, api.ErrInput}, {1, -16, 0, api.ErrInput}, {1, math.MinInt, 0, api.ErrInput}, {math.MinInt, 1, 0, api.ErrInput},
	} {
		if p, err := Need(x.n, x.align); p != x.pages || err != x.err {
			t.Error(x, p, err)
		}
	}
}

func TestLay(t *testing.T) {
	for _, x := range []struct {
		first, n, align int
		want            api.Large
		err             api.Errno
	}{
		{4, 241, 1, api.Large{At: 5*256 + 16, First: 5, Pages: 2, Room: 496}, 0}, {0, 240, 1, api.Large{At: 272, First: 1, Pages: 1, Room: 240}, 0}, {4, 10, 256, api.Large{At: 6 * 256, First: 5, Pages: 2, Room: 256}, 0}, {4, 10, 64, api.Large{At: 5*256 + 64, First: 5, Pages: 1, Room: 192}, 0},
		{1021, 240, 1, api.Large{At: 1022*256 + 16, First: 1022, Pages: 1, Room: 240}, 0}, {1022, 240, 1, api.Large{}, api.ErrInput}, {1021, 241, 1, api.Large{}, api.ErrInput}, {-1, 240, 1, api.Large{}, api.ErrInput},
		{math.MaxInt, 1, 1, api.Large{}, api.ErrInput}, {math.MinInt, 1, 1, api.Large{}, api.ErrInput}, {-1, api.MaxLarge + 1, 1, api.Large{}, api.ErrBig}, {4, 0, 1, api.Large{}, api.ErrInput}, {4, api.MaxLarge + 1, 5, api.Large{}, api.ErrInput},
	} {
		if l, err := Lay(x.first, x.n, x.align); l != x.want || err != x.err {
			t.Error(x, l, err)
		}
	}
	for align := 1; align <= 256; align *= 2 {
		for n := 1; n < 2000; n += 7 {
			l, err := Lay(3, n, align)
			a := Area(l)
			if err != 0 || l.At%align != 0 || l.At < 4*256+16 || l.Room < n || l.At+l.Room != (4+l.Pages)*256 || a.First != 3 || a.Pages != l.Pages+2 || l.Room-n >= 256 {
				t.Error(n, align, l)
			}
		}
	}
}

func TestIn(t *testing.T) {
	if l := In(7, 3, 32); l != (api.Large{At: 7*256 + 32, First: 7, Pages: 3, Room: 736}) {
		t.Error(l)
	}
	if l := In(0, 1024, 1); l != (api.Large{At: 16, First: 0, Pages: 1024, Room: api.MaxBytes - 16}) {
		t.Error(l)
	}
	for _, x := range [][3]int{{7, 3, 0}, {7, 3, 48}, {7, 3, 512}, {7, 0, 1}, {7, -1, 1}, {-1, 3, 1}, {1024, 1, 1}, {1023, 2, 1}, {1, math.MaxInt, 1}, {math.MaxInt, math.MaxInt, 1}} {
		if l := In(x[0], x[1], x[2]); l != (api.Large{}) {
			t.Error(x, l)
		}
	}
}

func TestArea(t *testing.T) {
	if a := Area(api.Large{At: 1300, First: 5, Pages: 2, Room: 4}); a != (api.Area{First: 4, Pages: 4}) {
		t.Error(a)
	}
}
