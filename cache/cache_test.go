package cache

import (
	"math"
	"slices"
	"testing"
)

// Promise 25.1.
func TestRoom(t *testing.T) {
	for most, want := range map[int]int{1: 1, 32: 32, 33: 32, 0: 1, -3: 1, math.MaxInt: 32, math.MinInt: 1} {
		if got := New(most).Room(); got != want {
			t.Error(most, got)
		}
	}
}

func TestPushAndPop(t *testing.T) {
	c := New(3)
	if c.Peek() != -1 || c.Pop() != -1 || c.Len() != 0 || len(c.List()) != 0 {
		t.Error("new")
	}
	if !c.Push(5) || !c.Push(0) || c.Push(-1) || c.Push(math.MinInt) || !c.Push(5) || c.Push(7) || c.Len() != 3 || c.Room() != 0 {
		t.Error("Push")
	}
	l := c.List()
	if !slices.Equal(l, []int{5, 0, 5}) {
		t.Error(l)
	}
	l[2] = 9
	if c.Peek() != 5 || c.Peek() != 5 || c.Pop() != 5 || c.Pop() != 0 || c.Room() != 2 || c.Pop() != 5 || c.Pop() != -1 {
		t.Error("Pop")
	}
}

func TestFill(t *testing.T) {
	c := New(3)
	l := []int{1, -2, 3, 4, 5, -6}
	left := c.Fill(l)
	if !slices.Equal(left, []int{5, -6}) || !slices.Equal(c.List(), []int{1, 3, 4}) {
		t.Error(left, c.List())
	}
	left[0] = 0
	if l[4] != 5 || !slices.Equal(c.Fill([]int{-1, 8}), []int{-1, 8}) || len(c.Fill(nil)) != 0 {
		t.Error("full")
	}
	c.Pop()
	if len(c.Fill([]int{7})) != 0 || c.Peek() != 7 {
		t.Error("just room")
	}
	c.Pop()
	if len(c.Fill([]int{-1, -2})) != 0 || c.Len() != 2 {
		t.Error("below 0")
	}
}

func TestDrainAndEmpty(t *testing.T) {
	c := New(8)
	if len(c.Drain()) != 0 || len(c.Empty()) != 0 {
		t.Error("new")
	}
	c.Fill([]int{1, 2, 3, 4, 5, 6})
	for _, want := range [][]int{{1, 2, 3}, {4, 5}, {6}, nil} {
		got := c.Drain()
		if !slices.Equal(got, want) {
			t.Error(got, want)
		}
		clear(got)
	}
	c.Fill([]int{1, 2, 3})
	if !slices.Equal(c.Drain(), []int{1, 2}) || !slices.Equal(c.List(), []int{3}) {
		t.Error(c.List())
	}
	c.Push(4)
	if !slices.Equal(c.Empty(), []int{3, 4}) || c.Len() != 0 || c.Room() != 8 {
		t.Error(c.List())
	}
}

func TestNone(t *testing.T) {
	var c *Cache
	if c.Len() != 0 || c.Room() != 0 || c.Peek() != -1 || c.Pop() != -1 || c.Push(1) || !slices.Equal(c.Fill([]int{1, 2}), []int{1, 2}) || c.Drain() != nil || c.Empty() != nil || c.List() != nil {
		t.Error("of none")
	}
}
