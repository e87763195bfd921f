package model

import (
	"cubbyhole/api"
	"cubbyhole/class"
	"cubbyhole/guard"
	"cubbyhole/perm"
)

// chunk is a live chunk: its bytes, how many there are for it, and what is kept, by granules from its beginning on.
type chunk struct {
	bytes []byte
	room  int
	kept  map[int]Ref
}

// wipe lets nothing be kept any more in granules of so many bytes from a place on.
func (c *chunk) wipe(at, n int) {
	for g := at / api.Granule; g*api.Granule < at+n; g++ {
		delete(c.kept, g)
	}
}

// in tells whether so many bytes from the cursor on are within bounds.
func in(r Ref, n int) bool { return n >= 0 && r.Cur >= 0 && r.Cur <= r.Len-n }

// access is what an access to so many bytes is refused for.
func access(r Ref, n, p int) api.Errno {
	switch {
	case r.Chunk == 0:
		return api.ErrDead
	case !perm.Has(r.Perm, p):
		return api.ErrPerm
	case !in(r, n):
		return api.ErrBounds
	}
	return api.OK
}

// slot is what an access to a granule is refused for, in which a capability is kept.
func slot(r Ref, p int) api.Errno {
	err := access(r, api.Granule, p)
	if err == api.OK && (r.Off+r.Cur)%api.Granule != 0 {
		return api.ErrAlign
	}
	return err
}

func (m *Model) thread(thread int) bool { return thread >= 0 && thread < m.conf.Threads }

// roomFor is how many bytes there are for a chunk of so many.
func roomFor(align, n int) (int, api.Errno) {
	if n <= api.MaxSmall && align <= api.Granule {
		return class.Of(class.For(n)), api.OK
	}
	pages, err := guard.Need(n, align)
	return guard.In(0, pages, align).Room, err
}

// get is a capability for so many new bytes.
func (m *Model) get(thread, align, n int, fill byte, full bool) (Ref, api.Errno) {
	switch {
	case !m.thread(thread) || n < 1:
		return Ref{}, api.ErrInput
	case n > m.conf.Most:
		return Ref{}, api.ErrBig
	}
	room, err := roomFor(align, n)
	switch {
	case err != api.OK:
		return Ref{}, err
	case full:
		return Ref{}, api.ErrMemory
	}
	c := &chunk{bytes: make([]byte, n), room: room, kept: map[int]Ref{}}
	for i := range c.bytes {
		c.bytes[i] = fill
	}
	m.made++
	m.chunks[m.made] = c
	return Ref{Chunk: m.made, Len: n, Perm: api.PermAll}, api.OK
}

// calloc is a capability for so many times so many noughts.
func (m *Model) calloc(o api.Op, full bool) (Ref, api.Errno) {
	switch {
	case !m.thread(o.Thread) || o.N < 1 || o.M < 1:
		return Ref{}, api.ErrInput
	case o.M > m.conf.Most/o.N:
		return Ref{}, api.ErrBig
	}
	return m.get(o.Thread, 1, o.N*o.M, 0, full)
}

// whole is what a capability is refused for, if it is to be for all of a chunk.
func (m *Model) whole(r Ref) api.Errno {
	switch {
	case r.Chunk == 0:
		return api.ErrDead
	case !perm.Has(r.Perm, api.PermFree):
		return api.ErrPerm
	case r.Off != 0 || r.Cur != 0 || r.Len != len(m.chunks[r.Chunk].bytes):
		return api.ErrBase
	}
	return api.OK
}

// free gives a chunk back.
func (m *Model) free(thread int, r Ref) api.Errno {
	if !m.thread(thread) {
		return api.ErrInput
	}
	err := m.whole(r)
	if err == api.OK {
		delete(m.chunks, r.Chunk)
	}
	return err
}

// usable is how many bytes there are for a chunk.
func (m *Model) usable(r Ref) (int, api.Errno) {
	if err := m.whole(r); err != api.OK {
		return 0, err
	}
	return m.chunks[r.Chunk].room, api.OK
}

// realloc is a capability for so many bytes, of which those that both have are alike, with what is kept in whole granules of them.
func (m *Model) realloc(thread int, r Ref, n int, full bool) (Ref, api.Errno) {
	switch {
	case !m.thread(thread) || n < 1:
		return Ref{}, api.ErrInput
	case n > m.conf.Most:
		return Ref{}, api.ErrBig
	}
	if err := m.whole(r); err != api.OK {
		return Ref{}, err
	}
	to, err := m.get(thread, 1, n, byte(m.conf.Fill), full)
	if err != api.OK {
		return Ref{}, err
	}
	old, c := m.chunks[r.Chunk], m.chunks[to.Chunk]
	copy(c.bytes, old.bytes)
	for g := range min(n, r.Len) / api.Granule {
		if v := m.good(old.kept[g]); v.Chunk != 0 {
			c.kept[g] = v
		}
	}
	delete(m.chunks, r.Chunk)
	to.Perm = r.Perm
	return to, api.OK
}

// read is so many bytes from the cursor on.
func (m *Model) read(r Ref, n int) ([]byte, api.Errno) {
	if err := access(r, n, api.PermLoad); err != api.OK {
		return nil, err
	}
	b := make([]byte, n)
	copy(b, m.chunks[r.Chunk].bytes[r.Off+r.Cur:])
	return b, api.OK
}

// write writes bytes from the cursor on.
func (m *Model) write(r Ref, b []byte) api.Errno {
	if err := access(r, len(b), api.PermStore); err != api.OK {
		return err
	}
	c, at := m.chunks[r.Chunk], r.Off+r.Cur
	if len(b) > 0 {
		c.wipe(at, len(b))
		copy(c.bytes[at:], b)
	}
	return api.OK
}

// load is what is kept at the cursor.
func (m *Model) load(r Ref) (Ref, api.Errno) {
	if err := slot(r, api.PermLoadCap); err != api.OK {
		return Ref{}, err
	}
	return m.good(m.chunks[r.Chunk].kept[(r.Off+r.Cur)/api.Granule]), api.OK
}

// store keeps a capability at the cursor, or writes noughts, if it is none.
func (m *Model) store(r, v Ref) api.Errno {
	if err := slot(r, api.PermStoreCap); err != api.OK {
		return err
	}
	c, at := m.chunks[r.Chunk], r.Off+r.Cur
	c.wipe(at, api.Granule)
	clear(c.bytes[at : at+api.Granule])
	if v.Chunk != 0 {
		c.kept[at/api.Granule] = v
	}
	return api.OK
}
