package store

import (
	"bytes"
	"cubbyhole/api"
	"math"
	"testing"
)

// Promise 5.1: every call against a plain slice.
func TestAgainstSlice(t *testing.T) {
	s, l := New(), make([]byte, api.MaxBytes)
	seed := uint64(5)
	for i := range 3000 {
		seed = seed*6364136223846793005 + 1442695040888963407
		at, n, b := int(seed>>33)%1500, int(seed>>40)%700, byte(seed>>56)
		if i%2 == 1 {
			at += api.MaxBytes - 1500
		}
		fits := n > 0 && at+n <= api.MaxBytes
		switch i % 7 {
		case 0:
			if s.Fill(at, n, b) != fits {
				t.Fatal("Fill", at, n)
			}
			for j := 0; fits && j < n; j++ {
				l[at+j] = b
			}
		case 1:
			d := bytes.Repeat([]byte{b, b + 1, 0}, n)[:n]
			if s.Write(at, d) != fits {
				t.Fatal("Write", at, n)
			}
			if fits {
				copy(l[at:], d)
			}
			clear(d)
		case 2:
			if !s.Put(at, b) || s.Get(at) != b {
				t.Fatal("Put", at)
			}
			l[at] = b
		case 3:
			s.Drop(at / 256)
			clear(l[at/256*256 : at/256*256+256])
		case 4:
			fits = at+8 <= api.MaxBytes
			if s.SetWord(at, seed) != fits {
				t.Fatal("SetWord", at)
			}
			for j := 0; fits && j < 8; j++ {
				l[at+j] = byte(seed >> (8 * j))
			}
			if fits && s.Word(at) != seed || !fits && s.Word(at) != 0 {
				t.Fatal("Word", at)
			}
		default:
			got := s.Read(at, n)
			if fits && !bytes.Equal(got, l[at:at+n]) || !fits && got != nil {
				t.Fatal("Read", at, n)
			}
			clear(got)
		}
	}
	if !bytes.Equal(s.Read(0, api.MaxBytes), l) {
		t.Error("not alike")
	}
}

func TestEdges(t *testing.T) {
	s := New()
	if !bytes.Equal(s.Read(0, api.MaxBytes), make([]byte, api.MaxBytes)) {
		t.Error("noughts")
	}
	if !s.SetWord(0, 258) || s.Get(0) != 2 || s.Get(1) != 1 || s.Word(0) != 258 || s.Word(1) != 1 {
		t.Error("the lowest first")
	}
	for _, at := range []int{-1, api.MaxBytes, math.MinInt, math.MaxInt} {
		if s.Get(at) != 0 || s.Put(at, 1) || s.Read(at, 1) != nil || s.Write(at, []byte{1}) || s.Fill(at, 1, 1) || s.Word(at) != 0 || s.SetWord(at, 1) {
			t.Error(at)
		}
		s.Drop(at)
	}
	if s.Read(0, 0) != nil || s.Read(0, -1) != nil || s.Read(1, math.MaxInt) != nil || s.Write(0, nil) || s.Fill(0, 0, 1) || s.Fill(1, math.MaxInt, 1) || s.Fill(0, math.MinInt, 1) || s.Fill(1, api.MaxBytes, 1) {
		t.Error("what may not be")
	}
	s.Drop(1)
	if s.Word(0) != 258 {
		t.Error("another page")
	}
	s.Drop(0)
	if s.Word(0) != 0 || len(s.kept) != 0 {
		t.Error("dropped")
	}
}

func TestNone(t *testing.T) {
	var s *Store
	s.Drop(0)
	if s.Get(0) != 0 || s.Put(0, 1) || s.Read(0, 1) != nil || s.Write(0, []byte{1}) || s.Fill(0, 1, 1) || s.Word(0) != 0 || s.SetWord(0, 1) {
		t.Error("of none")
	}
}
