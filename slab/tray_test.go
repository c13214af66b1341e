package slab_test

import (
	"fmt"
	"slices"
	"testing"

	"slabyard/api"
	"slabyard/slab"
)

// lay puts objects on a tray, in turn.
func lay(t *testing.T, y *slab.Tray, l ...api.Object) {
	t.Helper()
	for _, o := range l {
		if err := y.Lay(o); err != nil {
			t.Fatal(o, err)
		}
	}
}

// lift holds each answer against a text, in turn, and then there is nothing.
func lift(t *testing.T, y *slab.Tray, wants ...string) {
	t.Helper()
	for i, want := range wants {
		if o, ok := y.Lift(); fmt.Sprint(o) != want || !ok || y.Count() != len(wants)-i-1 {
			t.Fatalf("lift %d: %v, %v, want %s; %d left", i, o, ok, want, y.Count())
		}
	}
	if o, ok := y.Lift(); o != (api.Object{}) || ok {
		t.Fatal(o, ok)
	}
}

func TestTray(t *testing.T) { // what lies there is taken still, and the last one is lifted first
	z, c := start(t, nodes(0, 2, 2), 32)
	a, b := c.Tray(), c.Tray()
	lift(t, a)
	take(t, c, 0, "{0 0}", "{0 32}", "{0 64}")
	take(t, c, 1, "{1 0}")
	before := sight(t, z, c)
	lay(t, a, api.Object{At: 32}, api.Object{Node: 1}, api.Object{At: 0})
	lay(t, b, api.Object{At: 64})
	if a.Count() != 3 || b.Count() != 1 || sight(t, z, c) != before {
		t.Error(a.Count(), b.Count(), sight(t, z, c))
	}
	lift(t, a, "{0 0}", "{1 0}", "{0 32}")
	lay(t, a, api.Object{At: 0})
	lift(t, b, "{0 64}")
	lift(t, a, "{0 0}")
	if got := sight(t, z, c); got != before {
		t.Error(got, before)
	}
}

func TestTrayStale(t *testing.T) { // all that is not taken, and what lies somewhere; nothing is changed
	z, c := start(t, nodes(0, 2), 25)
	other := over(t, z, 25)
	a, b := c.Tray(), c.Tray()
	take(t, c, 0, "{0 0}", "{0 25}")
	take(t, other, 0, "{0 64}")
	lay(t, a, api.Object{At: 25})
	before := sight(t, z, c)
	for node := -1; node <= 1; node++ {
		for at := -64; at <= 192; at++ {
			o := api.Object{Node: node, At: at}
			if o == (api.Object{}) {
				continue
			}
			for _, y := range []*slab.Tray{a, b} {
				if err := y.Lay(o); err != api.ErrStale || a.Count() != 1 || b.Count() != 0 || sight(t, z, c) != before {
					t.Fatal(o, err, a.Count(), b.Count())
				}
			}
		}
	}
	y := (&slab.Cache{}).Tray() // and of a cache that has nothing at all
	if err := y.Lay(api.Object{}); err != api.ErrStale {
		t.Error(err)
	}
	lift(t, y)
	lift(t, a, "{0 25}")
}

func TestGiveOffATray(t *testing.T) { // an object that is given back is free, and lies nowhere: the others lie as they did
	_, c := start(t, nodes(0, 1), 16)
	a := c.Tray()
	take(t, c, 0, "{0 0}", "{0 16}", "{0 32}", "{0 48}")
	lay(t, a, slices.Concat(c.Taken()[1:], c.Taken()[:1])...)
	give(t, c, api.Object{At: 32}, api.Object{At: 0})
	has(t, c, "[{0 {0 0}}]", "[{0 16} {0 48}]")
	if a.Count() != 2 || c.Give(api.Object{At: 32}) != api.ErrStale {
		t.Error(a.Count())
	}
	take(t, c, 0, "{0 0}", "{0 32}") // taken again, it is with who took it
	b := c.Tray()
	lay(t, b, api.Object{At: 32})
	lift(t, a, "{0 48}", "{0 16}")
	lift(t, b, "{0 32}")
}

func TestOut(t *testing.T) { // neither what is free, nor what lies on a tray, nor what is no object
	z, c := start(t, nodes(0, 2), 25)
	out := func(l ...api.Object) {
		t.Helper()
		before := sight(t, z, c)
		for node := -1; node <= 1; node++ {
			for at := -64; at <= 192; at++ {
				if o := (api.Object{Node: node, At: at}); c.Out(o) != slices.Contains(l, o) {
					t.Fatal(o, c.Out(o))
				}
			}
			for _, at := range wild {
				if c.Out(api.Object{Node: node, At: at}) || c.Out(api.Object{Node: at}) {
					t.Fatal(node, at)
				}
			}
		}
		if sight(t, z, c) != before {
			t.Fatal(sight(t, z, c))
		}
	}
	out()
	take(t, c, 0, "{0 0}", "{0 25}", "{0 64}")
	out(api.Object{}, api.Object{At: 25}, api.Object{At: 64})
	y := c.Tray()
	lay(t, y, api.Object{At: 64}, api.Object{})
	out(api.Object{At: 25})
	give(t, c, api.Object{At: 64}, api.Object{At: 25})
	out()
	lift(t, y, "{0 0}")
	out(api.Object{})
	if (&slab.Cache{}).Out(api.Object{}) {
		t.Error("an object of no cache")
	}
}
