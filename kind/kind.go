// Package kind is what is told of things that are done (44) by their kinds alone: the allocator's programs and the model refuse the same.
package kind

import (
	"cubbyhole/api"
)

// Registers is the registers that a thing names; false: there is no such kind.
func Registers(o api.Op) ([]int, bool) {
	switch o.Kind {
	case api.OpMalloc, api.OpCalloc, api.OpAligned, api.OpClear:
		return []int{o.A}, true
	case api.OpRealloc, api.OpBounds, api.OpDrop, api.OpMove, api.OpCopy, api.OpLoad:
		return []int{o.A, o.B}, true
	case api.OpFree, api.OpUsable, api.OpRead, api.OpWrite:
		return []int{o.B}, true
	case api.OpStore:
		return []int{o.B, o.V}, true
	case api.OpStart, api.OpStep, api.OpRelease:
		return nil, true
	}
	return nil, false
}

// Refused is what a thing is refused for, where there are so many registers: ErrInput: there is no such kind; ErrHandle: a register is not there; ErrBig: more bytes than MaxData.
func Refused(o api.Op, regs int) api.Errno {
	l, ok := Registers(o)
	if !ok {
		return api.ErrInput
	}
	for _, r := range l {
		if r < 0 || r >= regs {
			return api.ErrHandle
		}
	}
	if o.Kind == api.OpRead && o.N > api.MaxData || o.Kind == api.OpWrite && len(o.Data) > api.MaxData {
		return api.ErrBig
	}
	return api.OK
}

// Quiet tells whether nothing is told of a thing: when epochs go on, nobody can tell.
func Quiet(o api.Op) bool {
	return o.Kind == api.OpStart || o.Kind == api.OpStep || o.Kind == api.OpRelease
}

// Comes tells whether a capability comes of a thing, to A.
func Comes(o api.Op) bool {
	switch o.Kind {
	case api.OpFree, api.OpUsable, api.OpRead, api.OpWrite, api.OpStore:
		return false
	}
	return !Quiet(o)
}
