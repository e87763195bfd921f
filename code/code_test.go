package code

import (
	"bytes"
	"cubbyhole/api"
	"testing"
)

func good() api.Cap {
	return api.Cap{Base: 0x12345, Len: 0x678, Cur: 0x12345 + 9, Perm: 19, Tag: 11, Valid: true}
}

// Promise 11.1.
func TestBytes(t *testing.T) {
	want := []byte{0xc5, 0x45, 0x23, 0x01, 0x78, 0x06, 0x00, 0x09, 0x00, 0x10, 19, 11, 0, 0, 0, 0}
	if b := Bytes(good()); !bytes.Equal(b, want) {
		t.Errorf("%x", b)
	}
	wrong := good()
	wrong.Tag = 16
	none := good()
	none.Valid = false
	for _, c := range []api.Cap{{}, {Valid: true}, wrong, none} {
		if !bytes.Equal(Bytes(c), make([]byte, 16)) {
			t.Error(c)
		}
	}
}

func TestReadOfBytes(t *testing.T) {
	for _, c := range []api.Cap{
		good(), {Base: 0, Len: api.MaxBytes, Cur: api.MaxOff, Perm: 31, Tag: 15, Valid: true}, {Base: api.MaxBytes - 1, Len: 1, Cur: api.MaxBytes - 1 - api.MaxOff, Valid: true},
		{Base: api.MaxBytes - 1, Len: 1, Cur: api.MaxBytes - 1 + api.MaxOff, Valid: true}, {Base: 255, Len: 256, Cur: 0, Tag: 1, Valid: true},
	} {
		b := Bytes(c)
		if got, ok := Read(b); got != c || !ok {
			t.Error(c, got, ok)
		}
		if b[0] != api.CapMark {
			t.Error(b)
		}
	}
}

func TestReadOfNone(t *testing.T) {
	b := Bytes(good())
	for i, x := range map[int]byte{0: 0xc4, 3: 0x40, 6: 0x7f, 9: 0x21, 10: 32, 11: 16, 12: 1, 13: 1, 14: 1, 15: 1} {
		bent := bytes.Clone(b)
		bent[i] = x
		if c, ok := Read(bent); ok || c != (api.Cap{}) {
			t.Error(i, c)
		}
	}
	for _, b := range [][]byte{nil, {}, b[:15], append(bytes.Clone(b), 0), make([]byte, 16), {api.CapMark}, {0xc5, 0, 0, 0, 0, 0, 0, 0, 0, 0x10, 0, 0, 0, 0, 0, 0}} {
		if c, ok := Read(b); ok || c != (api.Cap{}) {
			t.Error(b, c)
		}
	}
}
