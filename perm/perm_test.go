package perm

import (
	"cubbyhole/api"
	"math"
	"testing"
)

var wrong = []int{-1, 32, 33, math.MaxInt, math.MinInt}

// Promise 9.1.
func TestBits(t *testing.T) {
	for p := range 32 {
		if !May(p) {
			t.Error(p)
		}
		n := 0
		for i := range 5 {
			n += p >> i & 1
		}
		if Count(p) != n {
			t.Error("Count", p)
		}
		for q := range 32 {
			if Has(p, q) != (p|q == p) || And(p, q) != p&q || Less(p, q) != p&(31-q) {
				t.Error(p, q)
			}
		}
	}
	for _, p := range wrong {
		if May(p) || Has(p, 0) || Has(31, p) || Has(p, p) || And(p, 31) != 0 || And(31, p) != 0 || Less(p, 0) != 0 || Less(31, p) != 0 || Count(p) != 0 || Show(p) != "" {
			t.Error(p)
		}
	}
}

func TestLetters(t *testing.T) {
	for p, s := range map[int]string{0: "-----", 3: "rw---", api.PermAll: "rwRWf", api.PermLoad: "r----", api.PermStore: "-w---", api.PermLoadCap: "--R--", api.PermStoreCap: "---W-", api.PermFree: "----f"} {
		if Show(p) != s {
			t.Error(p, Show(p))
		}
	}
	for p := range 32 {
		if q, ok := Read(Show(p)); q != p || !ok {
			t.Error(p, q, ok)
		}
	}
	for _, s := range []string{"", "rw", "rwRW", "rwRWf-", "wr---", "RWrwf", "-----f", "x----", "rwRWF", "rw--\u00e9", "---\u00e9"} {
		if p, ok := Read(s); p != 0 || ok {
			t.Error(s, p)
		}
	}
}
