package mix

import (
	"math"
	"math/big"
	"testing"
)

// turn is Turn, by numbers of any size.
func turn(h, x uint64) uint64 {
	n := new(big.Int).SetUint64(h ^ x)
	n.Mul(n, new(big.Int).SetUint64(0x9e3779b97f4a7c15))
	n.Mod(n, new(big.Int).Lsh(big.NewInt(1), 64))
	up := new(big.Int).Lsh(n, 29)
	low := new(big.Int).Mod(up, new(big.Int).Lsh(big.NewInt(1), 64))
	return low.Uint64() | new(big.Int).Rsh(up, 64).Uint64()
}

// Promise 17.1.
func TestTurn(t *testing.T) {
	if Turn(0, 0) != 0 || Turn(5, 5) != 0 || Turn(0, 1) != 0x2fe94f82b3c6ef37 {
		t.Errorf("%x", Turn(0, 1))
	}
	for _, h := range []uint64{0, 1, 7, 1 << 63, math.MaxUint64, 0x123456789abcdef0} {
		for _, x := range []uint64{0, 1, 256, 1 << 63, math.MaxUint64} {
			if Turn(h, x) != turn(h, x) {
				t.Error(h, x)
			}
		}
	}
}

func TestSum(t *testing.T) {
	for _, key := range []uint64{0, 7, math.MaxUint64} {
		for _, at := range []int{0, 16, -1, math.MaxInt, math.MinInt} {
			for _, b := range [][]byte{nil, {0}, {0, 0}, {255, 1, 2}, []byte("a longer one, of letters")} {
				h := turn(key, uint64(at))
				for _, x := range b {
					h = turn(h, uint64(x)+1)
				}
				want := uint16(h&0xffff) ^ uint16(h>>16&0xffff) ^ uint16(h>>32&0xffff) ^ uint16(h>>48)
				if Sum(key, at, b) != want {
					t.Error(key, at, b)
				}
			}
		}
	}
	if Sum(0, 0, nil) != 0 || Sum(0, 0, []byte{0}) == Sum(0, 0, nil) || Sum(0, 0, []byte{0}) == Sum(0, 0, []byte{0, 0}) || Sum(7, 16, []byte{1}) == Sum(7, 32, []byte{1}) || Sum(7, 16, []byte{1}) == Sum(8, 16, []byte{1}) {
		t.Error("place, key, and noughts")
	}
}
