package batch

import (
	"math"
	"slices"
	"testing"
)

// Promise 24.1.
func TestSize(t *testing.T) {
	for size, want := range map[int]int{1: 1, 16: 16, 17: 16, 0: 1, -5: 1, math.MaxInt: 16, math.MinInt: 1} {
		if got := New(size).Size(); got != want {
			t.Error(size, got)
		}
	}
}

func TestGiveAndTake(t *testing.T) {
	b := New(2)
	l := []int{1, 2, 3}
	b.Give(l...)
	l[0] = 9
	b.Give()
	b.Give(4, 5)
	b.Give(6)
	if b.Len() != 6 || !slices.Equal(b.List(), []int{1, 2, 3, 4, 5, 6}) {
		t.Error(b.Len(), b.List())
	}
	got := b.List()
	got[5] = 0
	for _, want := range [][]int{{6}, {4, 5}, {3}, {1, 2}, nil, nil} {
		if got := b.Take(); !slices.Equal(got, want) {
			t.Error(got, want)
		}
	}
	if b.Len() != 0 || b.Take() != nil || len(b.List()) != 0 {
		t.Error("empty")
	}
	b.Give(1, 2, 3)
	if got := b.Take(); !slices.Equal(got, []int{3}) {
		t.Error(got)
	}
}

func TestTakenIsTheCallers(t *testing.T) {
	b := New(4)
	b.Give(1, 2)
	b.Give(3)
	l := b.Take()
	_ = append(l, 8)
	l[0] = 9
	b.Give(5, 6)
	if !slices.Equal(b.List(), []int{1, 2, 5, 6}) || l[0] != 9 {
		t.Error(b.List())
	}
}

func TestWithout(t *testing.T) {
	b := New(2)
	b.Give(1, 2, 3, 4, 5, 6, 2)
	out := []int{2, 3, 4, 2, 99}
	if n := b.Without(out); n != 4 || b.Len() != 3 || !slices.Equal(b.List(), []int{1, 5, 6}) {
		t.Error(n, b.List())
	}
	if !slices.Equal(out, []int{2, 3, 4, 2, 99}) || b.Without(nil) != 0 || b.Without([]int{7}) != 0 {
		t.Error("nothing goes")
	}
	for _, want := range [][]int{{5, 6}, {1}, nil} {
		if got := b.Take(); !slices.Equal(got, want) {
			t.Error(got, want)
		}
	}
}

func TestNone(t *testing.T) {
	var b *Batches
	b.Give(1)
	if b.Size() != 0 || b.Len() != 0 || b.Take() != nil || b.List() != nil || b.Without([]int{1}) != 0 {
		t.Error("of none")
	}
}
