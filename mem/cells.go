package mem

import (
	"bytes"
	"cubbyhole/api"
	"cubbyhole/slots"
	"cubbyhole/span"
	"cubbyhole/store"
	"cubbyhole/tags"
)

// cells is what is in memory, whether it is mapped or not: bytes, tags, and apart from them what is kept in granules.
type cells struct {
	bytes *store.Store
	tags  *tags.Tags
	slots *slots.Slots
	kept  map[int][]byte
}

// forget lets nothing be kept in granules that a stretch touches.
func (c *cells) forget(s api.Span) {
	first, n := span.Granules(s)
	for g := c.slots.Next(first); g >= 0 && g < first+n; g = c.slots.Next(g + 1) {
		delete(c.kept, g)
	}
	c.slots.Wrote(s)
}

// wipe lets pages be as new ones.
func (c *cells) wipe(first, n int) {
	s := span.Of(first, n)
	c.forget(s)
	g, many := span.Granules(s)
	c.tags.Set(g, many, 0)
	for page := first; page < first+n; page++ {
		c.bytes.Drop(page)
	}
}

// alike tells whether a page's bytes, and its tags, are those of others.
func (c *cells) alike(of *cells, page int) bool {
	s := span.Of(page, 1)
	if !bytes.Equal(c.bytes.Read(s.Base, s.Len), of.bytes.Read(s.Base, s.Len)) {
		return false
	}
	first, n := span.Granules(s)
	for g := first; g < first+n; g++ {
		if c.tags.Get(g) != of.tags.Get(g) {
			return false
		}
	}
	return true
}

// keepAlike tells whether the same is kept in the same granules.
func (c *cells) keepAlike(of *cells) bool {
	if c.slots.Count() != of.slots.Count() {
		return false
	}
	for g := c.slots.Next(0); g >= 0; g = c.slots.Next(g + 1) {
		if !of.slots.Has(g) || !bytes.Equal(c.kept[g], of.kept[g]) {
			return false
		}
	}
	return true
}
