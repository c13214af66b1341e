package slab

import (
	"slices"

	"slabyard/api"
)

// Tray of taken objects that nobody has: each lies there, and on no other tray, until it is lifted or given back to the cache.
type Tray struct {
	cache   *Cache
	objects []api.Object
}

// Tray of a cache, with nothing on it.
func (c *Cache) Tray() *Tray { return &Tray{cache: c} }

// Lay an object on top. ErrStale: it is none that is taken, or lies on a tray.
func (t *Tray) Lay(o api.Object) error {
	if !t.cache.Out(o) {
		return api.ErrStale
	}
	t.objects = append(t.objects, o)
	t.cache.lying[o] = t
	return nil
}

// Lift the top object: who asks has it. False: there is none.
func (t *Tray) Lift() (api.Object, bool) {
	if len(t.objects) == 0 {
		return api.Object{}, false
	}
	o := t.objects[len(t.objects)-1]
	t.cache.clear(o)
	return o, true
}

// Count of objects.
func (t *Tray) Count() int { return len(t.objects) }

// Out tells whether somebody has an object: it is taken, and lies on no tray.
func (c *Cache) Out(o api.Object) bool {
	s, _ := c.find(o)
	return s != nil && c.lying[o] == nil
}

// clear takes an object off the tray on which it lies, if there is one.
func (c *Cache) clear(o api.Object) {
	t := c.lying[o]
	if t == nil {
		return
	}
	delete(c.lying, o)
	t.objects = slices.DeleteFunc(t.objects, func(x api.Object) bool { return x == o })
}
