package drill

import (
	"cubbyhole/api"
	"cubbyhole/audit"
	"cubbyhole/conf"
	"cubbyhole/drain"
	"cubbyhole/mem"
	"cubbyhole/pair"
	"math"
	"math/big"
	"reflect"
	"testing"
)

// Promise 51.1.
func TestBelow(t *testing.T) {
	for _, seed := range []uint64{0, 1, 7, math.MaxUint64} {
		d := New(seed)
		was := new(big.Int).SetUint64(seed)
		for i := range 1000 {
			n := []int{1, 2, 10, 1 << 31, math.MaxInt, 97}[i%6]
			for _, none := range []int{0, -1, math.MinInt} {
				if d.Below(none) != 0 {
					t.Fatal(none)
				}
			}
			was.Mul(was, big.NewInt(2862933555777941757))
			was.Add(was, big.NewInt(3037000493))
			was.Mod(was, new(big.Int).Lsh(big.NewInt(1), 64))
			want := int(was.Uint64()>>33) % n
			if got := d.Below(n); got != want {
				t.Fatal(seed, i, got, want)
			}
		}
	}
}

func TestConf(t *testing.T) {
	d := New(1)
	lean, seen := 0, map[api.Conf]int{}
	for range 2000 {
		c := d.Conf(false)
		if conf.Check(c) != 0 {
			t.Fatal(c)
		}
		if !conf.Ample(c) {
			lean++
		}
		seen[c]++
		if c = d.Conf(true); !conf.Ample(c) {
			t.Fatal(c)
		}
	}
	if lean == 0 || len(seen) < 1900 {
		t.Error("always the same", lean, len(seen))
	}
}

// odd is forms that may not be.
var odd = []api.Conf{{}, {Regs: -1, Threads: math.MinInt, Most: math.MinInt}, {Regs: math.MaxInt, Threads: math.MaxInt, Most: math.MaxInt}, {Regs: 1, Threads: 1, Most: 1}}

func TestOps(t *testing.T) {
	c := New(5).Conf(true)
	kinds := map[int]int{}
	for many, want := range map[int]int{0: 0, 5: 5, -1: 0, 400: 400, 401: 400, math.MaxInt: 400, math.MinInt: 0} {
		l := New(uint64(many)).Ops(c, many)
		if len(l) != want {
			t.Error(many, len(l))
		}
		for _, o := range l {
			kinds[o.Kind]++
		}
	}
	for kind := range kinds {
		if kind < api.OpMalloc || kind > api.OpClear {
			t.Error(kind)
		}
	}
	if len(kinds) != 18 {
		t.Error("all kinds", kinds)
	}
	if !reflect.DeepEqual(New(3).Ops(c, 300), New(3).Ops(c, 300)) || reflect.DeepEqual(New(3).Ops(c, 300), New(4).Ops(c, 300)) {
		t.Error("the same by the same rule")
	}
	one, all := New(3), New(3).Ops(c, 20)
	for _, o := range all {
		if !reflect.DeepEqual(one.Op(c), o) {
			t.Error("one by one")
		}
	}
}

func TestAsManyForEveryForm(t *testing.T) {
	for seed := range uint64(20) {
		c := New(seed).Conf(seed%2 == 0)
		d := New(seed)
		d.Ops(c, 50)
		want := d.Below(1 << 31)
		for _, c := range odd {
			d := New(seed)
			l := d.Ops(c, 50)
			if len(l) != 50 || d.Below(1<<31) != want {
				t.Error(seed, c, len(l))
			}
			for _, o := range l {
				if o.Kind < api.OpMalloc || o.Kind > api.OpClear {
					t.Error(o)
				}
			}
		}
	}
}

// Promises T1 to T5, by what is drawn: the allocator is as the model, and nothing is wrong with it; in the end it is as a new one.
func TestDrill(t *testing.T) {
	errs := map[api.Errno]int{}
	cleared, peak := 0, 0
	for seed := range uint64(60) {
		d := New(seed)
		c := d.Conf(seed%3 > 0)
		p, err := pair.New(c, []int{int(seed), -3, 8})
		if err != 0 {
			t.Fatal(c, err)
		}
		for range 3 {
			for _, o := range d.Ops(c, 400) {
				errs[p.Do(o).Err]++
				if d.Below(20) > 0 {
					continue
				}
				if sum := audit.Check(p.H); p.Bad() != 0 || sum != 0 {
					t.Fatal(seed, o, p.Bad(), sum)
				}
			}
		}
		cleared += p.H.S.Clear
		peak = max(peak, p.H.M.Peak())
		drain.All(p.H, 0)
		drain.Settle(p.H, 70)
		p.H.Release()
		if l, _ := audit.Chunks(p.H); len(l) != 0 || audit.Check(p.H) != 0 || p.Bad() != 0 || !mem.Same(p.H.M, mem.New(1)) {
			t.Fatal(seed, "not as a new one", l, audit.Check(p.H))
		}
	}
	for _, err := range []api.Errno{0, api.ErrInput, api.ErrBig, api.ErrDead, api.ErrPerm, api.ErrBounds, api.ErrAlign, api.ErrMemory, api.ErrBase, api.ErrHandle} {
		if errs[err] == 0 {
			t.Error("never", err, errs)
		}
	}
	if cleared == 0 || errs[0] < 20000 {
		t.Error(cleared, errs)
	}
}
