package epoch

import (
	"cubbyhole/api"
	"math"
	"testing"
)

// Promise 34.1.
func TestBeginAndEnd(t *testing.T) {
	e := Epoch{}
	if e.Now() != 0 || e.On() {
		t.Error("at none")
	}
	if same, err := e.End(); err != api.ErrState || same != e {
		t.Error(same, err)
	}
	for i := 1; i < 5; i++ {
		on, err := e.Begin()
		if err != 0 || on.Now() != i || !on.On() || e.On() {
			t.Error(on, err)
		}
		if same, err := on.Begin(); err != api.ErrState || same != on {
			t.Error(same, err)
		}
		e, err = on.End()
		if err != 0 || e.Now() != i || e.On() {
			t.Error(e, err)
		}
	}
}

func TestPast(t *testing.T) {
	e := Epoch{}
	for ended := range 4 {
		for stamp := -2; stamp < 6; stamp++ {
			if e.Past(stamp) != (stamp < ended) {
				t.Error(ended, stamp)
			}
		}
		if e.Past(math.MaxInt) || !e.Past(math.MinInt) {
			t.Error(ended)
		}
		e, _ = e.Begin()
		if e.Past(ended) || !e.Past(ended-1) {
			t.Error("goes on", ended)
		}
		e, _ = e.End()
	}
}

func TestMost(t *testing.T) {
	e := Epoch{}
	for range api.MaxEpoch {
		e, _ = e.Begin()
		e, _ = e.End()
	}
	if e.Now() != api.MaxEpoch {
		t.Error(e)
	}
	if same, err := e.Begin(); err != api.ErrBig || same != e {
		t.Error(same, err)
	}
}
