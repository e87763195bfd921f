package three

import (
	"bytes"
	"math"
	"testing"
)

// Promises 11.1 and 18.1: how numbers are written there.
func TestPutAndGet(t *testing.T) {
	for n, want := range map[int][]byte{0: {0, 0, 0, 9}, 1: {1, 0, 0, 9}, 0x123456: {0x56, 0x34, 0x12, 9}, Most: {255, 255, 255, 9}} {
		b := []byte{7, 7, 7, 9}
		if !Put(b, n) || !bytes.Equal(b, want) || Get(b) != n || !May(n) {
			t.Error(n, b)
		}
	}
	for _, n := range []int{-1, Most + 1, math.MaxInt, math.MinInt} {
		if May(n) {
			t.Error(n)
		}
	}
	short := []byte{1, 2}
	if Put(short, 5) || Get(short) != 0 || Put(nil, 5) || Get(nil) != 0 || short[0] != 1 {
		t.Error("not three")
	}
}
