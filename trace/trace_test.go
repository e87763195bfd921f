package trace

import (
	"bytes"
	"cubbyhole/api"
	"cubbyhole/drill"
	"math"
	"testing"
)

// Promise 54.1.
func TestOne(t *testing.T) {
	for _, x := range []struct {
		o    api.Op
		want []byte
	}{
		{api.Op{}, make([]byte, 8)},
		{api.Op{Kind: 1, Thread: -1, A: 2, B: -2, V: 63, N: 64, M: -65, Data: []byte{7, 0}}, []byte{2, 1, 4, 3, 126, 128, 1, 129, 1, 4, 7, 0}},
		{api.Op{Kind: -64, N: math.MaxInt, M: math.MinInt, Data: []byte{}}, []byte{127, 0, 0, 0, 0, 254, 255, 255, 255, 255, 255, 255, 255, 255, 1, 255, 255, 255, 255, 255, 255, 255, 255, 255, 1, 0}},
		{api.Op{Kind: 8192}, []byte{128, 128, 1, 0, 0, 0, 0, 0, 0, 0}},
	} {
		if b := One(x.o); !bytes.Equal(b, x.want) {
			t.Error(x.o, b)
		}
	}
	if n := len(One(api.Op{Data: make([]byte, 5000)})); n != 7+2+5000 {
		t.Error(n)
	}
}

func TestBytes(t *testing.T) {
	if b := Bytes(nil); string(b) != "CT1\x00" {
		t.Error(b)
	}
	if b := Bytes([]api.Op{}); string(b) != "CT1\x00" {
		t.Error(b)
	}
	a, c := api.Op{Kind: 5, Data: []byte("xy")}, api.Op{N: -7}
	if b := Bytes([]api.Op{a, c}); !bytes.Equal(b, append(append([]byte("CT1\x04"), One(a)...), One(c)...)) {
		t.Error(b)
	}
	if Bytes(make([]api.Op, api.MaxOps+1)) != nil || len(Bytes(make([]api.Op, api.MaxOps))) != 3+2+8*500 {
		t.Error("MaxOps")
	}
	if Bytes([]api.Op{a, {Data: make([]byte, api.MaxData+1)}}) != nil || Bytes([]api.Op{a, {Data: make([]byte, api.MaxData)}}) == nil {
		t.Error("MaxData")
	}
}

func TestReadOfBytes(t *testing.T) {
	for _, l := range [][]api.Op{nil, {{}}, make([]api.Op, api.MaxOps), {{Kind: math.MinInt, Thread: math.MaxInt, A: -1, B: 1, V: 1 << 40, N: -1 << 40, M: 127, Data: make([]byte, api.MaxData)}, {Data: []byte{1}}}} {
		b := Bytes(l)
		got, ok := Read(b)
		if !ok || !Same(got, l) || !bytes.Equal(Bytes(got), b) {
			t.Error(len(l), ok)
		}
	}
	for seed := range uint64(30) {
		d := drill.New(seed)
		l := d.Ops(d.Conf(false), 400)
		b := Bytes(l)
		got, ok := Read(b)
		if !ok || !Same(got, l) {
			t.Error(seed)
		}
		for i := range got {
			clear(got[i].Data)
		}
		if again, _ := Read(b); !Same(again, l) {
			t.Error("not the caller's own")
		}
	}
}

func TestReadOfNone(t *testing.T) {
	b := Bytes([]api.Op{{Kind: 300, Data: []byte("abc")}, {M: -5}})
	for n := range b {
		if l, ok := Read(b[:n]); ok || l != nil {
			t.Error("cut at", n)
		}
	}
	for _, s := range []string{
		"", "CT2\x00", "ct1\x00", "CT1", "CT1\x01", "CT1\x80\x00", "CT1\x00\x00", string(b) + "\x00", " " + string(b), "CT1\x02\x00\x00\x00\x00\x00\x00\x00\x80\x00", "CT1\x02\x80\x00\x00\x00\x00\x00\x00\x00\x00", "CT1\x02\x00\x00\x00\x00\x00\x00\x00\x01",
		"CT1\x02\xff\xff\xff\xff\xff\xff\xff\xff\xff\x03\x00\x00\x00\x00\x00\x00\x00", "CT1\x02\xff\xff\xff\xff\xff\xff\xff\xff\xff\xff\x01\x00\x00\x00\x00\x00\x00\x00", "CT1\x80\x80\x80\x80\x80\x80\x80\x80\x80\x80\x80\x80\x00", "CT1\xfe\xff\xff\xff\xff\xff\xff\xff\xff\x01",
		"CT1\x02\x00\x00\x00\x00\x00\x00\x00\xfe\xff\xff\xff\xff\xff\xff\xff\xff\x01", "CT1\x02\x00\x00\x00\x00\x00\x00\x00\x06ab",
	} {
		if l, ok := Read([]byte(s)); ok || l != nil {
			t.Errorf("%q", s)
		}
	}
	// more than there may be, though all of it is there
	many := append([]byte("CT1\xea\x07"), make([]byte, 8*501)...)
	if l, ok := Read(many); ok || l != nil {
		t.Error("MaxOps")
	}
	big := append([]byte("CT1\x02"), One(api.Op{Data: make([]byte, api.MaxData+1)})...)
	if l, ok := Read(big); ok || l != nil {
		t.Error("MaxData")
	}
	if l, ok := Read(nil); ok || l != nil {
		t.Error("nothing")
	}
}

func TestSame(t *testing.T) {
	a := api.Op{Kind: 1, Thread: 2, A: 3, B: 4, V: 5, N: 6, M: 7, Data: []byte{8}}
	if !Same(nil, []api.Op{}) || !Same([]api.Op{a}, []api.Op{a}) || !Same([]api.Op{{}}, []api.Op{{Data: []byte{}}}) || Same([]api.Op{a}, nil) || Same([]api.Op{a}, []api.Op{a, a}) {
		t.Error("Same")
	}
	for i, bend := range []func(o *api.Op){func(o *api.Op) { o.Kind++ }, func(o *api.Op) { o.Thread++ }, func(o *api.Op) { o.A++ }, func(o *api.Op) { o.B++ }, func(o *api.Op) { o.V++ }, func(o *api.Op) { o.N++ }, func(o *api.Op) { o.M++ }, func(o *api.Op) { o.Data = []byte{9} }, func(o *api.Op) { o.Data = nil }, func(o *api.Op) { o.Data = []byte{8, 8} }} {
		b := a
		bend(&b)
		if Same([]api.Op{a, a}, []api.Op{a, b}) || Same([]api.Op{b}, []api.Op{a}) {
			t.Error(i)
		}
	}
}
