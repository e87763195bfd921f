package quar

import (
	"cubbyhole/api"
	"cubbyhole/epoch"
	"slices"
	"testing"
)

func item(at, epoch int) api.Item {
	return api.Item{At: at, Room: at * 2, Class: 3, Thread: 1, Epoch: epoch}
}

// ended is so many epochs, that have ended.
func ended(n int) epoch.Epoch {
	e := epoch.Epoch{}
	for range n {
		e, _ = e.Begin()
		e, _ = e.End()
	}
	return e
}

// Promise 35.1.
func TestPut(t *testing.T) {
	q := &Quar{}
	if q.Len() != 0 || q.Bytes() != 0 || q.Batches() != 0 || len(q.List()) != 0 || q.Has(0) || q.Take(ended(3)) != nil {
		t.Error("plain")
	}
	for _, x := range []struct {
		i  api.Item
		ok bool
	}{{item(16, 1), true}, {item(32, 1), true}, {item(48, 0), false}, {item(64, 4), true}, {item(80, 3), false}, {item(96, 4), true}, {item(112, 5), true}} {
		if q.Put(x.i) != x.ok {
			t.Error(x)
		}
	}
	l := q.List()
	if !slices.Equal(l, []api.Item{item(16, 1), item(32, 1), item(64, 4), item(96, 4), item(112, 5)}) || q.Len() != 5 || q.Bytes() != 640 || q.Batches() != 3 {
		t.Error(l, q.Bytes(), q.Batches())
	}
	l[0] = api.Item{}
	if !q.Has(16) || !q.Has(112) || q.Has(48) || q.Has(17) || q.Has(-1) {
		t.Error("Has")
	}
}

func TestTake(t *testing.T) {
	q := &Quar{}
	q.Put(item(16, 0))
	q.Put(item(32, 0))
	q.Put(item(48, 1))
	q.Put(item(64, 3))
	if q.Take(epoch.Epoch{}) != nil {
		t.Error("none has ended")
	}
	on, _ := epoch.Epoch{}.Begin()
	if q.Take(on) != nil {
		t.Error("it goes on")
	}
	if l := q.Take(ended(1)); !slices.Equal(l, []api.Item{item(16, 0), item(32, 0)}) || q.Len() != 2 || q.Has(16) {
		t.Error(l)
	}
	if q.Take(ended(1)) != nil || q.Batches() != 2 {
		t.Error("it is not past")
	}
	if l := q.Take(ended(9)); !slices.Equal(l, []api.Item{item(48, 1)}) {
		t.Error("one batch", l)
	}
	if l := q.Take(ended(4)); !slices.Equal(l, []api.Item{item(64, 3)}) || q.Len() != 0 || q.Take(ended(9)) != nil {
		t.Error(l)
	}
	if !q.Put(item(16, 2)) || q.Len() != 1 {
		t.Error("none is ahead")
	}
}

func TestNone(t *testing.T) {
	var q *Quar
	if q.Put(item(16, 0)) || q.Take(ended(1)) != nil || q.Len() != 0 || q.Bytes() != 0 || q.Batches() != 0 || q.List() != nil || q.Has(16) {
		t.Error("of none")
	}
}
