package kind

import (
	"cubbyhole/api"
	"math"
	"slices"
	"testing"
)

// Promise 44.1: which registers are named, and what is refused for that.
func TestRegisters(t *testing.T) {
	for k := -1; k < 21; k++ {
		var want []int
		ok := true
		switch k {
		case 1, 2, 3, 18:
			want = []int{1}
		case 5, 7, 8, 9, 10, 13:
			want = []int{1, 2}
		case 4, 6, 11, 12:
			want = []int{2}
		case 14:
			want = []int{2, 3}
		case 15, 16, 17:
		default:
			ok = false
		}
		o := api.Op{Kind: k, A: 1, B: 2, V: 3}
		l, got := Registers(o)
		if !slices.Equal(l, want) || got != ok {
			t.Error(k, l, got)
		}
		for regs := range 5 {
			err := api.OK
			switch {
			case !ok:
				err = api.ErrInput
			case len(want) > 0 && slices.Max(want) >= regs:
				err = api.ErrHandle
			}
			if got := Refused(o, regs); got != err {
				t.Error(k, regs, got)
			}
		}
	}
}

func TestRefused(t *testing.T) {
	for _, x := range []struct {
		o   api.Op
		err api.Errno
	}{
		{api.Op{Kind: api.OpRead, N: 4096}, 0}, {api.Op{Kind: api.OpRead, N: 4097}, api.ErrBig}, {api.Op{Kind: api.OpRead, N: math.MinInt}, 0}, {api.Op{Kind: api.OpRead, B: -1, N: 4097}, api.ErrHandle}, {api.Op{Kind: api.OpMalloc, N: 4097}, 0},
		{api.Op{Kind: api.OpWrite, Data: make([]byte, 4096)}, 0}, {api.Op{Kind: api.OpWrite, Data: make([]byte, 4097)}, api.ErrBig}, {api.Op{Kind: api.OpRead, Data: make([]byte, 4097)}, 0}, {api.Op{Kind: api.OpClear, A: -1}, api.ErrHandle}, {api.Op{Kind: math.MaxInt, N: 4097}, api.ErrInput},
	} {
		if err := Refused(x.o, 4); err != x.err {
			t.Error(x.o.Kind, err)
		}
	}
}

func TestQuietAndComes(t *testing.T) {
	for k := api.OpMalloc; k <= api.OpClear; k++ {
		o := api.Op{Kind: k}
		if Quiet(o) != (k == 15 || k == 16 || k == 17) || Comes(o) != slices.Contains([]int{1, 2, 3, 5, 7, 8, 9, 10, 13, 18}, k) {
			t.Error(k)
		}
	}
}
