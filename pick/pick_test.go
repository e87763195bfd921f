package pick

import (
	"math"
	"slices"
	"testing"
)

var all = []int{1, 2, 3, 4, 5, 6, 7, 8, 9, 10, 11, 12, 13, 14, 15}

// Promise 20.1.
func TestMay(t *testing.T) {
	if !slices.Equal(May(), all) || !slices.Equal(May(0, 16, -1, math.MaxInt), all) {
		t.Error(May())
	}
	if !slices.Equal(May(1, 15, 7, 7), []int{2, 3, 4, 5, 6, 8, 9, 10, 11, 12, 13, 14}) || len(May(all...)) != 0 {
		t.Error(May(1, 15, 7, 7))
	}
}

func TestOf(t *testing.T) {
	for _, x := range []struct {
		draw int
		not  []int
		tag  int
	}{
		{0, []int{1}, 2}, {0, nil, 1}, {14, nil, 15}, {15, nil, 1}, {-1, nil, 15}, {-15, nil, 1}, {-16, nil, 15}, {13, []int{1}, 15}, {14, []int{1}, 2}, {-1, []int{15, 14}, 13}, {5, all, 0}, {2, []int{1, 2, 3, 0}, 6},
		{math.MaxInt, all[:14], 15}, {math.MinInt, all[:14], 15}, {math.MinInt, all[:13], 14}, {7, append([]int{99}, all[1:]...), 1},
	} {
		if got := Of(x.draw, x.not...); got != x.tag {
			t.Error(x, got)
		}
	}
}

func TestNext(t *testing.T) {
	for _, x := range []struct {
		tag  int
		not  []int
		want int
	}{
		{0, nil, 1}, {1, nil, 2}, {14, nil, 15}, {15, nil, 1}, {-9, nil, 1}, {99, nil, 1}, {math.MaxInt, nil, 1}, {math.MinInt, nil, 1}, {1, []int{2, 3}, 4}, {14, []int{15, 1}, 2}, {-1, []int{1}, 2},
		{5, append(append([]int{}, all[:4]...), all[5:]...), 5}, {5, all, 0}, {0, all, 0}, {5, []int{0, 16}, 6},
	} {
		if got := Next(x.tag, x.not...); got != x.want {
			t.Error(x, got)
		}
	}
}
