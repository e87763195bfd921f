package stat

import (
	"cubbyhole/api"
	"testing"
)

func of(got, given, ended, live, peak, clear int) api.Stat {
	return api.Stat{Got: got, Given: given, Ended: ended, Live: live, Peak: peak, Clear: clear}
}

// Promise 39.1.
func TestCounts(t *testing.T) {
	s := of(7, 5, 2, 30, 40, 9)
	for i, x := range []struct{ got, want api.Stat }{
		{Get(api.Stat{}, 5), of(1, 0, 0, 5, 5, 0)}, {Get(s, 5), of(8, 5, 2, 35, 40, 9)}, {Get(s, 11), of(8, 5, 2, 41, 41, 9)}, {Get(s, 0), of(8, 5, 2, 30, 40, 9)}, {Get(s, -5), of(8, 5, 2, 30, 40, 9)},
		{Give(s, 5), of(7, 6, 2, 25, 40, 9)}, {Give(s, 0), of(7, 6, 2, 30, 40, 9)}, {Give(s, -5), of(7, 6, 2, 30, 40, 9)}, {End(s), of(7, 5, 3, 30, 40, 9)},
		{Clear(s, 3), of(7, 5, 2, 30, 40, 12)}, {Clear(s, 0), s}, {Clear(s, -3), s}, {Get(of(0, 0, 0, 9, 1, 0), 0), of(1, 0, 0, 9, 9, 0)},
	} {
		if x.got != x.want {
			t.Error(i, x)
		}
	}
	if Live(s) != 2 || Held(s) != 3 || Live(api.Stat{}) != 0 || Held(api.Stat{}) != 0 {
		t.Error(Live(s), Held(s))
	}
}

func TestMay(t *testing.T) {
	for _, s := range []api.Stat{{}, of(7, 5, 2, 30, 40, 9), of(5, 5, 5, 40, 40, 0)} {
		if !May(s) {
			t.Error(s)
		}
	}
	for _, s := range []api.Stat{of(7, 5, -1, 30, 40, 9), of(7, 5, 6, 30, 40, 9), of(4, 5, 2, 30, 40, 9), of(7, 5, 2, -1, 40, 9), of(7, 5, 2, 41, 40, 9), of(7, 5, 2, 30, 40, -1), of(-1, -1, -1, 0, 0, 0)} {
		if May(s) {
			t.Error(s)
		}
	}
}

func TestText(t *testing.T) {
	if s := Text(of(1, 0, 0, 5, 5, 0)); s != "got 1 given 0 ended 0 live 5 peak 5 clear 0" {
		t.Error(s)
	}
	if s := Text(of(12, -3, 4, 5, 60, 7)); s != "got 12 given -3 ended 4 live 5 peak 60 clear 7" {
		t.Error(s)
	}
}
