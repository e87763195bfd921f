// Package three is numbers of three bytes, the lowest first, as capabilities (11) and headers (18) are written.
package three

// Most is the greatest number of three bytes.
const Most = 1<<24 - 1

// May tells whether a number has three bytes.
func May(n int) bool { return n >= 0 && n <= Most }

// Put writes a number's three lowest bytes; false: there are not three.
func Put(b []byte, n int) bool {
	if len(b) < 3 {
		return false
	}
	for i := range 3 {
		b[i] = byte(n >> (8 * i))
	}
	return true
}

// Get is the number of the first three bytes; 0: there are not three.
func Get(b []byte) int {
	if len(b) < 3 {
		return 0
	}
	return int(b[0]) | int(b[1])<<8 | int(b[2])<<16
}
