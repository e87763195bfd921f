package desk

import (
	"cubbyhole/api"
	"cubbyhole/num"
	"strings"
)

// Where a conf line's numbers stand, and how many there are.
const (
	confPages = iota
	confRegion
	confLarge
	confThreads
	confCache
	confBatch
	confShelf
	confRegs
	confMost
	confFill
	confNumbers
)

// confKey is the key of all allocators of texts.
const confKey = 7

// number is a number from 0 to MaxBytes; false: a word is none.
func number(word string) (int, bool) { return num.Parse(word, api.MaxBytes) }

// signed is a number that may have - ahead, if it is not 0.
func signed(word string) (int, bool) {
	digits, below := strings.CutPrefix(word, "-")
	n, ok := number(digits)
	switch {
	case !below:
		return n, ok
	case n == 0:
		return 0, false
	}
	return -n, ok
}

// nibble is what a hexadecimal digit stands for; false: it is none.
func nibble(b byte) (byte, bool) {
	switch {
	case b >= '0' && b <= '9':
		return b - '0', true
	case b >= 'a' && b <= 'f':
		return b - 'a' + 10, true
	}
	return 0, false
}

// unhex is the bytes of digits, two each; false: they are none's.
func unhex(digits string) ([]byte, bool) {
	if len(digits)%2 != 0 {
		return nil, false
	}
	var l []byte
	for i := 0; i < len(digits); i += 2 {
		high, ok := nibble(digits[i])
		low, too := nibble(digits[i+1])
		if !ok || !too {
			return nil, false
		}
		l = append(l, high<<4|low)
	}
	return l, true
}

// hex is the digits of bytes, two each.
func hex(l []byte) string {
	const digits = "0123456789abcdef"
	var b strings.Builder
	for _, x := range l {
		b.WriteByte(digits[x>>4])
		b.WriteByte(digits[x&15])
	}
	return b.String()
}

// layout is the kind of thing that a word tells, and what stands behind it: t: a thread; a, b, v: registers; n, m: numbers; i: n, that may be below 0; d: digits of bytes; 0: there is no such thing.
func layout(word string) (int, string) {
	switch word {
	case "malloc":
		return api.OpMalloc, "tan"
	case "calloc":
		return api.OpCalloc, "tanm"
	case "aligned":
		return api.OpAligned, "tamn"
	case "free":
		return api.OpFree, "tb"
	case "realloc":
		return api.OpRealloc, "tabn"
	case "usable":
		return api.OpUsable, "b"
	case "bounds":
		return api.OpBounds, "abn"
	case "drop":
		return api.OpDrop, "abn"
	case "move":
		return api.OpMove, "abi"
	case "copy":
		return api.OpCopy, "ab"
	case "read":
		return api.OpRead, "bn"
	case "write":
		return api.OpWrite, "bd"
	case "load":
		return api.OpLoad, "ab"
	case "store":
		return api.OpStore, "bv"
	case "start":
		return api.OpStart, ""
	case "step":
		return api.OpStep, "n"
	case "release":
		return api.OpRelease, ""
	case "clear":
		return api.OpClear, "a"
	}
	return 0, ""
}

// readOp is the thing that a line's words tell; false: they tell none.
func readOp(words []string) (api.Op, bool) {
	kind, fields := layout(words[0])
	if kind == 0 || len(words) != len(fields)+1 {
		return api.Op{}, false
	}
	o := api.Op{Kind: kind}
	for i := range len(fields) {
		if !readField(&o, fields[i], words[i+1]) {
			return api.Op{}, false
		}
	}
	return o, true
}

// readField puts a word to where it belongs; false: it may not stand there.
func readField(o *api.Op, field byte, word string) bool {
	ok := false
	switch field {
	case 't':
		o.Thread, ok = number(word)
	case 'a':
		o.A, ok = number(word)
	case 'b':
		o.B, ok = number(word)
	case 'v':
		o.V, ok = number(word)
	case 'n':
		o.N, ok = number(word)
	case 'm':
		o.M, ok = number(word)
	case 'i':
		o.N, ok = signed(word)
	case 'd':
		o.Data, ok = unhex(word)
	}
	return ok
}

// readConf is how an allocator is made that a line's words tell; false: they tell none.
func readConf(words []string) (api.Conf, bool) {
	if len(words) != confNumbers+1 {
		return api.Conf{}, false
	}
	var l [confNumbers]int
	for i := range l {
		n, ok := number(words[i+1])
		if !ok {
			return api.Conf{}, false
		}
		l[i] = n
	}
	return api.Conf{
		Pages:   l[confPages],
		Region:  l[confRegion],
		Large:   l[confLarge],
		Threads: l[confThreads],
		Cache:   l[confCache],
		Batch:   l[confBatch],
		Shelf:   l[confShelf],
		Regs:    l[confRegs],
		Most:    l[confMost],
		Fill:    l[confFill],
		Key:     confKey,
	}, true
}
