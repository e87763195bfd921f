package large

import (
	"cubbyhole/api"
	"math"
	"slices"
	"testing"
)

func at(at, pages int) api.Large {
	return api.Large{At: at, First: at / 256, Pages: pages, Room: pages*256 - 16}
}

// Promise 30.1.
func TestList(t *testing.T) {
	x := &List{}
	if x.Len() != 0 || len(x.All()) != 0 || x.Pages() != 0 {
		t.Error("plain")
	}
	for _, l := range []api.Large{at(1296, 2), at(272, 1), at(4112, 5)} {
		if x.Put(l) != 0 {
			t.Error(l)
		}
	}
	if x.Put(at(1296, 7)) != api.ErrTwice || x.Len() != 3 || x.Pages() != 14 {
		t.Error(x.Len(), x.Pages())
	}
	l := x.All()
	if !slices.Equal(l, []api.Large{at(272, 1), at(1296, 2), at(4112, 5)}) {
		t.Error(l)
	}
	l[0] = api.Large{}
	if got, ok := x.Get(272); got != at(272, 1) || !ok {
		t.Error(got, ok)
	}
	for _, place := range []int{0, 271, 5000, -1, math.MaxInt, math.MinInt} {
		got, ok := x.Get(place)
		gone, too := x.Drop(place)
		if got != (api.Large{}) || ok || gone != (api.Large{}) || too {
			t.Error(place)
		}
	}
	if got, ok := x.Drop(1296); got != at(1296, 2) || !ok || x.Len() != 2 || x.Pages() != 10 {
		t.Error(got, ok)
	}
	if _, ok := x.Drop(1296); ok {
		t.Error("twice")
	}
	if x.Put(at(1296, 7)) != 0 || !slices.Equal(x.All(), []api.Large{at(272, 1), at(1296, 7), at(4112, 5)}) {
		t.Error(x.All())
	}
}

func TestNone(t *testing.T) {
	var x *List
	_, got := x.Get(0)
	_, gone := x.Drop(0)
	if x.Len() != 0 || x.Put(at(272, 1)) != api.ErrInput || got || gone || x.All() != nil || x.Pages() != 0 {
		t.Error("of none")
	}
}
