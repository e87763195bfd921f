package state

import (
	"cubbyhole/api"
	"math"
	"testing"
)

// Promise 19.1.
func TestNext(t *testing.T) {
	want := map[[2]int]int{{1, 1}: 2, {2, 2}: 3, {3, 3}: 1}
	for _, s := range []int{math.MinInt, -1, 0, 1, 2, 3, 4, math.MaxInt} {
		for _, e := range []int{math.MinInt, -1, 0, 1, 2, 3, 4, math.MaxInt} {
			next, ok := want[[2]int{s, e}]
			got, err := Next(s, e)
			if got != next || (err == 0) != ok || err != 0 && err != api.ErrState || Can(s, e) != ok {
				t.Error(s, e, got, err)
			}
		}
	}
}

func TestRun(t *testing.T) {
	for _, x := range []struct {
		from   int
		events []int
		to, n  int
	}{
		{1, []int{1, 2}, 3, 2}, {1, []int{1, 2, 3, 1}, 2, 4}, {1, nil, 1, 0}, {3, []int{}, 3, 0}, {1, []int{2, 1}, 1, 0}, {1, []int{1, 1, 2}, 2, 1}, {3, []int{3, 9, 1}, 1, 1}, {2, []int{2, 3, 3}, 1, 2},
	} {
		if to, n := Run(x.from, x.events); to != x.to || n != x.n {
			t.Error(x, to, n)
		}
	}
}

func TestName(t *testing.T) {
	for s, name := range map[int]string{1: "free", 2: "live", 3: "held", 0: "", 4: "", -1: "", math.MaxInt: ""} {
		if Name(s) != name {
			t.Error(s, Name(s))
		}
	}
}
