package report

import (
	"bytes"
	"cubbyhole/api"
	"cubbyhole/client"
	"cubbyhole/drill"
	"cubbyhole/heap"
	"math"
	"slices"
	"testing"
)

func made(t *testing.T) *heap.Heap {
	t.Helper()
	h, err := heap.New(api.Conf{Pages: 160, Region: 5, Large: 60, Threads: 2, Cache: 4, Batch: 4, Shelf: 2, Regs: 8, Most: 4000, Fill: 9, Key: 7}, nil)
	if err != 0 {
		t.Fatal(err)
	}
	return h
}

func at(at, size, seq int) api.Event { return api.Event{At: at, Size: size, Tag: 3, Seq: seq} }

// Promise 52.1.
func TestRing(t *testing.T) {
	for most, want := range map[int]int{1: 1, 256: 256, 257: 256, 0: 1, -1: 1, math.MaxInt: 256, math.MinInt: 1} {
		r := New(most)
		for i := range 300 {
			r.Add(at(i, 1, 777))
		}
		l := r.List()
		if len(l) != want || r.Count() != 300 {
			t.Error(most, len(l), r.Count())
		}
		for i, e := range l {
			if seq := 300 - want + i; e != at(seq, 1, seq) {
				t.Error(most, i, e)
			}
		}
	}
}

func TestLastAndOver(t *testing.T) {
	r := New(4)
	if _, ok := r.Last(16); ok || len(r.List()) != 0 || r.Count() != 0 {
		t.Error("new")
	}
	for _, e := range []api.Event{at(16, 5, 0), at(16, 40, 0), at(16, 20, 0), at(64, 3, 0), at(32, 1, 0)} {
		r.Add(e)
	}
	l := r.List()
	if !slices.Equal(l, []api.Event{at(16, 40, 1), at(16, 20, 2), at(64, 3, 3), at(32, 1, 4)}) {
		t.Error(l)
	}
	l[0] = api.Event{}
	if r.List()[0] != at(16, 40, 1) {
		t.Error("not the caller's own")
	}
	for place, want := range map[int]api.Event{16: at(16, 20, 2), 64: at(64, 3, 3), 32: at(32, 1, 4), 17: {}, 0: {}, -1: {}, math.MaxInt: {}} {
		if e, ok := r.Last(place); e != want || ok != (want.Size > 0) {
			t.Error("Last", place, e, ok)
		}
	}
	for place, want := range map[int]api.Event{16: at(16, 20, 2), 35: at(16, 20, 2), 36: at(16, 40, 1), 55: at(16, 40, 1), 56: {}, 32: at(32, 1, 4), 33: at(16, 20, 2), 66: at(64, 3, 3), 67: {}, 15: {}, -1: {}, math.MinInt: {}} {
		if e, ok := r.Over(place); e != want || ok != (want.Size > 0) {
			t.Error("Over", place, e, ok)
		}
	}
}

func TestDo(t *testing.T) {
	h, r := made(t), New(99)
	var want []api.Event
	got := func(reg, thread int) {
		c, _ := h.Get(reg)
		want = append(want, api.Event{At: c.Base, Size: c.Len, Tag: c.Tag, Thread: thread, Seq: len(want)})
	}
	given := func(c api.Cap, thread int) {
		want = append(want, api.Event{Given: true, At: c.Base, Size: c.Len, Tag: c.Tag, Thread: thread, Seq: len(want)})
	}
	do := func(o api.Op, err api.Errno) {
		t.Helper()
		if told := r.Do(h, o); told.Err != err {
			t.Error(o, told)
		}
	}
	do(api.Op{Kind: api.OpMalloc, Thread: 1, A: 2, N: 20}, 0)
	got(2, 1)
	do(api.Op{Kind: api.OpCalloc, A: 3, N: 20, M: 3}, 0)
	got(3, 0)
	do(api.Op{Kind: api.OpAligned, A: 4, N: 20, M: 64}, 0)
	got(4, 0)
	do(api.Op{Kind: api.OpCopy, A: 5, B: 4}, 0)
	do(api.Op{Kind: api.OpMalloc, A: 2, N: 4001}, api.ErrBig)
	do(api.Op{Kind: api.OpFree, B: 1}, api.ErrDead)
	do(api.Op{Kind: api.OpFree, B: 9}, api.ErrHandle)
	old, _ := h.Get(2)
	do(api.Op{Kind: api.OpRealloc, Thread: 1, A: 2, B: 2, N: 50}, 0)
	given(old, 1)
	got(2, 1)
	do(api.Op{Kind: api.OpRealloc, A: 2, B: 2, N: 0}, api.ErrInput)
	old, _ = h.Get(3)
	do(api.Op{Kind: api.OpFree, Thread: 1, B: 3}, 0)
	given(old, 1)
	do(api.Op{Kind: api.OpStart}, 0)
	do(api.Op{Kind: 99}, api.ErrInput)
	if l := r.List(); !slices.Equal(l, want) || r.Count() != len(want) {
		t.Error(l, want)
	}
}

func TestDoIsClients(t *testing.T) {
	for seed := range uint64(10) {
		d := drill.New(seed)
		c := d.Conf(true)
		a, _ := heap.New(c, nil)
		b, _ := heap.New(c, nil)
		r, none := New(8), (*Ring)(nil)
		for i, o := range d.Ops(c, 400) {
			x, y := r.Do(a, o), api.Result{}
			if i%2 == 0 {
				y = client.Do(b, o)
			} else {
				y = none.Do(b, o)
			}
			if x.Err != y.Err || x.N != y.N || !bytes.Equal(x.Data, y.Data) {
				t.Fatal(seed, o, x, y)
			}
		}
		if a.S.Got+a.S.Given != r.Count() {
			t.Error(a.S, r.Count())
		}
	}
}

func TestWhy(t *testing.T) {
	h, r := made(t), New(99)
	for _, o := range []api.Op{
		{Kind: api.OpMalloc, A: 0, N: 40}, {Kind: api.OpMove, A: 1, B: 0, N: -3}, {Kind: api.OpMove, A: 2, B: 0, N: 43}, {Kind: api.OpMove, A: 3, B: 0, N: 35}, {Kind: api.OpDrop, A: 4, B: 0, N: api.PermStore}, {Kind: api.OpMalloc, A: 5, N: 7}, {Kind: api.OpFree, B: 5}, {Kind: api.OpMove, A: 6, B: 0, N: 17}, {Kind: api.OpBounds, A: 6, B: 6, N: 20},
	} {
		if told := r.Do(h, o); told.Err != 0 {
			t.Fatal(o, told)
		}
	}
	live, gone := r.List()[0], r.List()[2]
	for i, x := range []struct {
		reg, n, p int
		slot      bool
		kind, far int
		event     api.Event
	}{
		{0, 40, 31, true, api.ReportFine, 0, live}, {0, 0, 0, false, api.ReportFine, 0, live}, {0, -5, 1, false, api.ReportFine, 0, live}, {0, 41, 1, false, api.ReportOver, 1, live}, {0, math.MaxInt, 1, false, api.ReportOver, math.MaxInt - 40, live}, {0, 1, 32, false, api.ReportPerm, 0, live}, {0, 1, -1, false, api.ReportPerm, 0, live},
		{1, 1, 1, true, api.ReportUnder, 3, live}, {1, 0, 1, false, api.ReportUnder, 3, live}, {1, 99, 1, false, api.ReportUnder, 3, live}, {2, 0, 1, false, api.ReportOver, 3, live}, {2, 5, 1, true, api.ReportOver, 3, live}, {3, 5, 1, false, api.ReportFine, 0, live}, {3, 6, 1, true, api.ReportOver, 1, live}, {3, 5, 1, true, api.ReportAlign, 0, live},
		{4, 1, 2, false, api.ReportPerm, 0, live}, {4, 99, 3, false, api.ReportPerm, 0, live}, {4, 40, 1, true, api.ReportFine, 0, live}, {6, 20, 1, false, api.ReportFine, 0, live}, {6, 16, 4, true, api.ReportAlign, 0, live}, {6, 21, 4, true, api.ReportOver, 1, live},
		{5, 1, 32, false, api.ReportGiven, 0, gone}, {5, 99, 1, true, api.ReportGiven, 0, gone},
		{7, 1, 1, false, api.ReportNone, 0, api.Event{}}, {8, 1, 1, false, api.ReportNone, 0, api.Event{}}, {-1, 1, 1, false, api.ReportNone, 0, api.Event{}},
	} {
		want := api.Report{Kind: x.kind, Far: x.far, Event: x.event, Known: x.event.Size > 0}
		if told := r.Why(h, x.reg, x.n, x.p, x.slot); told != want {
			t.Error(i, told, want)
		}
		want.Event, want.Known = api.Event{}, false
		if told := (*Ring)(nil).Why(h, x.reg, x.n, x.p, x.slot); told != want {
			t.Error(i, "of no ring", told)
		}
	}
	if !gone.Given || gone.Size != 7 {
		t.Error(gone)
	}
	// where the cursor is at the end
	r.Do(h, api.Op{Kind: api.OpMove, A: 2, B: 0, N: 40})
	if told := r.Why(h, 2, 0, 1, false); told.Kind != api.ReportFine {
		t.Error(told)
	}
	if told := r.Why(h, 2, 5, 1, false); told.Kind != api.ReportOver || told.Far != 5 {
		t.Error(told)
	}
	// what is swept is cleared
	h.Start()
	h.Step(math.MaxInt)
	if told := r.Why(h, 5, 1, 1, false); told != (api.Report{Kind: api.ReportNone}) {
		t.Error(told)
	}
	if told := r.Why(nil, 0, 1, 1, false); told != (api.Report{Kind: api.ReportNone}) {
		t.Error(told)
	}
}

// Error is what an access is refused for.
func TestErrorAsAccess(t *testing.T) {
	for seed := range uint64(20) {
		d := drill.New(seed)
		c := d.Conf(true)
		h, _ := heap.New(c, nil)
		r := New(50)
		for _, o := range d.Ops(c, 400) {
			var want api.Report
			switch o.Kind {
			case api.OpRead:
				if o.N < 0 {
					continue
				}
				want = r.Why(h, o.B, o.N, api.PermLoad, false)
			case api.OpWrite:
				want = r.Why(h, o.B, len(o.Data), api.PermStore, false)
			case api.OpStore:
				want = r.Why(h, o.B, api.Granule, api.PermStoreCap, true)
			default:
				r.Do(h, o)
				continue
			}
			if told := r.Do(h, o); told.Err != Error(want) && told.Err != api.ErrHandle {
				t.Fatal(seed, o, told, want)
			}
		}
	}
}

func TestErrorAndText(t *testing.T) {
	for kind, want := range map[int]struct {
		err  api.Errno
		text string
	}{
		0: {0, "fine"}, 1: {api.ErrDead, "no capability"}, 2: {api.ErrDead, "given back"}, 3: {api.ErrPerm, "not permitted"}, 4: {api.ErrBounds, "ahead of its bytes"}, 5: {api.ErrBounds, "behind its bytes"}, 6: {api.ErrAlign, "not at a granule"},
		7: {0, ""}, -1: {0, ""}, math.MaxInt: {0, ""}, math.MinInt: {0, ""},
	} {
		r := api.Report{Kind: kind, Far: 5, Known: true}
		if Error(r) != want.err || Text(r) != want.text {
			t.Error(kind, Error(r), Text(r))
		}
	}
}

func TestNone(t *testing.T) {
	var r *Ring
	r.Add(at(16, 1, 0))
	_, last := r.Last(16)
	_, over := r.Over(16)
	if r.List() != nil || r.Count() != 0 || last || over {
		t.Error("of none")
	}
	h := made(t)
	if told := r.Do(h, api.Op{Kind: api.OpMalloc, N: 5}); told.Err != 0 || h.S.Got != 1 {
		t.Error(told)
	}
	for _, r := range []*Ring{nil, New(5)} {
		if told := r.Do(nil, api.Op{Kind: api.OpMalloc, N: 5}); told.Err != api.ErrInput || r.Count() != 0 {
			t.Error(told)
		}
	}
}
