// Package num is layer 1: numbers.
package num

import (
	"math"
	"math/bits"
	"strconv"
)

// mostDigits is how many digits a text has at most, that is parsed: so no sum of them is too great.
const mostDigits = 15

// Down is the greatest multiple of a step that is not above a number (a step below 1, and a number below 0: 0).
func Down(n, step int) int {
	if n < 0 || step < 1 {
		return 0
	}
	return n - n%step
}

// Up is the least multiple of a step that is not below a number (a step below 1, and a number below 0: 0; also, if there is no such int).
func Up(n, step int) int {
	if n < 0 || step < 1 {
		return 0
	}
	over := n % step
	if over == 0 {
		return n
	}
	if n > math.MaxInt-(step-over) {
		return 0
	}
	return n + (step - over)
}

// Parts is how many parts of a size a number has, the last one perhaps not whole (of what is below 1: 0).
func Parts(n, size int) int {
	if n < 1 || size < 1 {
		return 0
	}
	return (n-1)/size + 1
}

// Power tells whether a number is a power of two.
func Power(n int) bool { return n > 0 && n&(n-1) == 0 }

// Log is how often 2 is a factor of the greatest power of two that is not above a number (of numbers below 1: 0).
func Log(n int) int {
	if n < 1 {
		return 0
	}
	return bits.Len64(uint64(n)) - 1
}

// Clip is a number, but no more than to; and then no less than from.
func Clip(n, from, to int) int {
	if n > to {
		n = to
	}
	if n < from {
		n = from
	}
	return n
}

// Sum is the sum of numbers; false: one is below 0, or together they are more than most.
func Sum(most int, l ...int) (int, bool) {
	if most < 0 {
		return 0, false
	}
	sum := 0
	for _, n := range l {
		// held against what is left, as the sum itself could be too great
		if n < 0 || n > most-sum {
			return 0, false
		}
		sum += n
	}
	return sum, true
}

// Digits is a number's decimal digits.
func Digits(n int) string { return strconv.Itoa(n) }

// Parse is the number whose Digits a text is, from 0 to most; false: there is none such.
func Parse(s string, most int) (int, bool) {
	if s == "" || len(s) > mostDigits || s[0] == '0' && len(s) > 1 {
		return 0, false
	}
	n := 0
	for _, r := range s {
		if r < '0' || r > '9' {
			return 0, false
		}
		n = n*10 + int(r-'0')
	}
	if n > most {
		return 0, false
	}
	return n, true
}
