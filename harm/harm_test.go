package harm

import (
	"bytes"
	"cubbyhole/api"
	"cubbyhole/audit"
	"cubbyhole/client"
	"cubbyhole/drill"
	"cubbyhole/give"
	"cubbyhole/head"
	"cubbyhole/heap"
	"math"
	"slices"
	"testing"
)

func made(t *testing.T) (*heap.Heap, api.Cap, api.Cap) {
	t.Helper()
	h, err := heap.New(api.Conf{Pages: 160, Region: 5, Large: 60, Threads: 2, Cache: 4, Batch: 4, Shelf: 2, Regs: 8, Most: 4000, Fill: 9, Key: 7}, nil)
	if err != 0 {
		t.Fatal(err)
	}
	a, _ := h.Malloc(0, 20)
	b, _ := h.Malloc(0, 2000)
	return h, a, b
}

// Promise 48.1.
func TestBendAndMend(t *testing.T) {
	h, a, b := made(t)
	for _, c := range []api.Cap{a, b} {
		had, _ := h.M.Read(api.Span{Base: c.Base - 16, Len: 16})
		for i := range 16 {
			was, err := Bend(h, c.Base, i, 0x81)
			now, _ := h.M.Read(api.Span{Base: c.Base - 16, Len: 16})
			had[i] ^= 0x81
			if err != 0 || !bytes.Equal(now, had) {
				t.Error(i, err, now)
			}
			had[i] ^= 0x81
			if !bytes.Equal(was, had) {
				t.Error(i, "as it was", was)
			}
			if !Found(h, c.Base) && !Sealed(h, c.Base) || Found(h, c.Base) != (give.Free(h, 0, c) == api.ErrCorrupt) {
				t.Error(i, "not found")
			}
			if Mend(h, c.Base, was) != 0 || Found(h, c.Base) || !Sealed(h, c.Base) {
				t.Error(i, "not mended")
			}
		}
		if was, err := Bend(h, c.Base, 3, 0); err != 0 || !bytes.Equal(was, had) || Found(h, c.Base) || !Sealed(h, c.Base) {
			t.Error("by 0", err)
		}
	}
	if audit.Check(h) != 0 {
		t.Error(audit.Check(h))
	}
}

func TestErrors(t *testing.T) {
	h, a, _ := made(t)
	unmade := h.Small.Region(5).At(0)
	for _, x := range []struct {
		at, i int
		err   api.Errno
	}{{a.Base, -1, 1}, {a.Base, 16, 1}, {a.Base, math.MinInt, 1}, {0, 16, 1}, {a.Base + 16, 0, 2}, {0, 0, 2}, {-1, 0, 2}, {math.MaxInt, 0, 2}, {math.MinInt, 0, 2}, {unmade, 0, 2}} {
		if b, err := Bend(h, x.at, x.i, 1); b != nil || err != x.err {
			t.Error(x, b, err)
		}
	}
	granule := make([]byte, 16)
	for _, x := range []struct {
		at  int
		b   []byte
		err api.Errno
	}{{a.Base, nil, 1}, {a.Base, granule[:15], 1}, {unmade, granule[:15], 1}, {a.Base, make([]byte, 17), 1}, {unmade, granule, api.ErrMapped}, {0, granule, 1}, {math.MinInt, granule, 1}, {math.MaxInt, granule, 1}, {a.Base, granule, 0}} {
		if err := Mend(h, x.at, x.b); err != x.err {
			t.Error(x, err)
		}
	}
	if !Found(h, a.Base) || Sealed(h, a.Base) {
		t.Error("noughts")
	}
	for _, at := range []int{unmade, 0, 17, -16, math.MaxInt, math.MinInt} {
		if Found(h, at) || Sealed(h, at) {
			t.Error(at)
		}
	}
	// a sum that is right, of what is no header
	odd := head.Bytes(7, a.Base+16, api.Head{State: 1})
	Mend(h, a.Base, odd)
	if !Found(h, a.Base) || Sealed(h, a.Base) {
		t.Error("another place's")
	}
}

func TestSealedButNone(t *testing.T) {
	h, a, _ := made(t)
	// of all bytes of the state and of the sum some seal what is no header
	was, _ := h.M.Read(api.Span{Base: a.Base - 16, Len: 16})
	b := bytes.Clone(was)
	b[1] = 9
	for x := range 1 << 16 {
		b[14], b[15] = byte(x), byte(x>>8)
		if !head.Sealed(7, a.Base, b) {
			continue
		}
		if Mend(h, a.Base, b) != 0 || !Sealed(h, a.Base) || !Found(h, a.Base) {
			t.Error("sealed, but none")
		}
		return
	}
	t.Error("none is sealed")
}

func TestAny(t *testing.T) {
	h, _, _ := made(t)
	l, _ := audit.Chunks(h)
	for _, place := range []int{0, 1, 4, 5, -1, -5, -6, 7, math.MaxInt, math.MinInt} {
		want := l[(place%5+5)%5]
		if c, ok := Any(h, place); len(l) != 5 || c != want || !ok {
			t.Error(place, c, ok)
		}
	}
	fresh, _ := heap.New(h.C, nil)
	if c, ok := Any(fresh, 0); c != (api.Chunk{}) || ok {
		t.Error(c)
	}
}

// Promise T4: other chunks are as they were; the bent one is neither given out nor given back.
func TestOthersStay(t *testing.T) {
	h, a, b := made(t)
	h.Write(b, []byte("abc"))
	Bend(h, a.Base, 4, 1)
	for range 50 {
		if c, err := h.Malloc(1, 20); err == 0 && c.Base == a.Base {
			t.Error("given out", c)
		}
	}
	if give.Free(h, 0, a) != api.ErrCorrupt {
		t.Error("given back")
	}
	if got, err := h.Read(b, 3); err != 0 || string(got) != "abc" || give.Free(h, 0, b) != 0 {
		t.Error(got, err)
	}
}

// Promise T4, by what is drawn: as long as headers are bent, chunks that have other ones are as the model tells, and nobody gets a bent one.
func TestBentAmongOthers(t *testing.T) {
	found := 0
	for seed := range uint64(40) {
		d := drill.New(seed)
		c := d.Conf(true)
		h, _ := heap.New(c, nil)
		bent := map[int][]byte{}
		for _, o := range d.Ops(c, 400) {
			told := client.Do(h, o)
			if told.Err == api.ErrCorrupt {
				found++
			}
			if got, _ := h.Get(o.A); told.Err == 0 && (o.Kind == api.OpMalloc || o.Kind == api.OpCalloc || o.Kind == api.OpRealloc) && bent[got.Base] != nil {
				t.Fatal(seed, "given out", got)
			}
			if b, _ := h.Get(o.B); told.Err == 0 && o.Kind == api.OpUsable && bent[b.Base] != nil {
				t.Fatal(seed, "taken for one", b)
			}
			if x, ok := Any(h, d.Below(1000)); ok && d.Below(12) == 0 && bent[x.At] == nil {
				was, err := Bend(h, x.At, d.Below(16), byte(1+d.Below(255)))
				if err != 0 || !Found(h, x.At) {
					if Mend(h, x.At, was) != 0 {
						t.Fatal(seed, x)
					}
					continue // its sum was the same
				}
				bent[x.At] = was
			}
			l, _ := audit.Chunks(h)
			for at := range bent {
				// its pages were unmapped: then it is made anew
				if !slices.ContainsFunc(l, func(x api.Chunk) bool { return x.At == at }) {
					delete(bent, at)
				}
			}
			if sum := audit.Check(h); sum&(api.WrongTag|api.WrongKnown|api.WrongLap) != 0 {
				t.Fatal(seed, o, sum)
			}
		}
	}
	if found < 100 {
		t.Error("seldom found", found)
	}
}

func TestNone(t *testing.T) {
	b, err := Bend(nil, 16, 0, 1)
	_, ok := Any(nil, 0)
	if b != nil || err != api.ErrNone || Mend(nil, 16, make([]byte, 16)) != api.ErrInput || Found(nil, 16) || Sealed(nil, 16) || ok {
		t.Error("of none", err)
	}
}
