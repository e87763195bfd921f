package head

import (
	"bytes"
	"cubbyhole/api"
	"cubbyhole/mix"
	"math"
	"testing"
)

const key = 7

func good() api.Head {
	return api.Head{State: api.StateHeld, Class: 19, Tag: 11, Size: 0x123456, Epoch: 0xabcdef}
}

// seal puts the right sum to what may be none's bytes.
func seal(key uint64, at int, b []byte) []byte {
	s := mix.Sum(key, at, b[:14])
	b[14], b[15] = byte(s), byte(s>>8)
	return b
}

// Promise 18.1.
func TestBytes(t *testing.T) {
	want := seal(key, 32, []byte{0x48, 3, 19, 11, 0x56, 0x34, 0x12, 0xef, 0xcd, 0xab, 0, 0, 0, 0, 0, 0})
	b := Bytes(key, 32, good())
	if !bytes.Equal(b, want) || !Sealed(key, 32, b) || Sealed(key, 48, b) || Sealed(key+1, 32, b) {
		t.Errorf("%x", b)
	}
	if h, err := Read(key, 32, b); h != good() || err != 0 {
		t.Error(h, err)
	}
	if h, err := Read(key, 48, b); h != (api.Head{}) || err != api.ErrCorrupt {
		t.Error(h, err)
	}
	if h, err := Read(key+1, 32, b); h != (api.Head{}) || err != api.ErrCorrupt {
		t.Error(h, err)
	}
}

func TestMay(t *testing.T) {
	for _, h := range []api.Head{good(), {State: 1}, {State: 2, Class: api.LargeClass, Tag: 15, Size: 1<<24 - 1, Epoch: 1<<24 - 1}} {
		got, err := Read(key, -5, Bytes(key, -5, h))
		if !May(h) || got != h || err != 0 {
			t.Error(h, got, err)
		}
	}
	for i, bend := range []func(h *api.Head){
		func(h *api.Head) { h.State = 0 }, func(h *api.Head) { h.State = 4 }, func(h *api.Head) { h.Class = -1 }, func(h *api.Head) { h.Class = 20 }, func(h *api.Head) { h.Class = 64 }, func(h *api.Head) { h.Class = math.MaxInt },
		func(h *api.Head) { h.Tag = -1 }, func(h *api.Head) { h.Tag = 16 }, func(h *api.Head) { h.Size = -1 }, func(h *api.Head) { h.Size = 1 << 24 }, func(h *api.Head) { h.Epoch = -1 }, func(h *api.Head) { h.Epoch = 1 << 24 }, func(h *api.Head) { h.Epoch = math.MinInt },
	} {
		h := good()
		bend(&h)
		if May(h) || Bytes(key, 32, h) != nil {
			t.Error(i, h)
		}
	}
	if May(api.Head{}) {
		t.Error("zero")
	}
}

func TestBent(t *testing.T) {
	b := Bytes(key, 32, good())
	for i := range b {
		for x := 1; x < 256; x++ {
			bent := bytes.Clone(b)
			bent[i] ^= byte(x)
			h, err := Read(key, 32, bent)
			if Sealed(key, 32, bent) {
				continue // the sum is the same: this can be
			}
			if err != api.ErrCorrupt || h != (api.Head{}) {
				t.Error(i, x, h, err)
			}
		}
	}
}

func TestSealedButNoHeader(t *testing.T) {
	for i, x := range map[int]byte{0: 0x49, 1: 4, 2: 20, 3: 16, 10: 1, 11: 1, 12: 1, 13: 1} {
		b := Bytes(key, 32, good())
		b[i] = x
		seal(key, 32, b)
		if h, err := Read(key, 32, b); !Sealed(key, 32, b) || err != api.ErrCorrupt || h != (api.Head{}) {
			t.Error(i, h, err)
		}
	}
	for _, b := range [][]byte{nil, {}, make([]byte, 16), Bytes(key, 32, good())[:15], append(Bytes(key, 32, good()), 0), seal(key, 32, make([]byte, 16))} {
		if h, err := Read(key, 32, b); err != api.ErrCorrupt || h != (api.Head{}) || len(b) != 16 && Sealed(key, 32, b) {
			t.Error(b, h, err)
		}
	}
}
