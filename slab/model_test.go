package slab_test

import (
	"fmt"
	"slices"
	"testing"

	"slabyard/api"
	"slabyard/slab"
	"slabyard/zone"
)

// model is what a cache ought to be, byte by byte, over a zone of its own, of which the same is asked.
type model struct {
	z     *zone.Zone
	nodes []int // pages of each
	size  int
	pages map[api.Place]*[64]bool // bytes of objects that are taken, by slab
}

func newModel(t *testing.T, c zone.Config, size int) *model {
	t.Helper()
	z, err := zone.New(c)
	if err != nil {
		t.Fatal(c, err)
	}
	return &model{z: z, nodes: c.Pages, size: size, pages: map[api.Place]*[64]bool{}}
}

// objects of a slab that are taken, or that are free.
func (m *model) objects(p api.Place, taken bool) []api.Object {
	var l []api.Object
	for i := range 64 / m.size {
		if m.pages[p][i*m.size] == taken {
			l = append(l, api.Object{Node: p.Node, At: p.B.At*64 + i*m.size})
		}
	}
	return l
}

// set takes, or gives, each byte of an object: none may be so already (P43).
func (m *model) set(t *testing.T, o api.Object, taken bool) {
	t.Helper()
	bytes := m.pages[api.Place{Node: o.Node, B: api.Block{At: o.At / 64}}]
	for i := range m.size {
		if b := &bytes[o.At%64+i]; *b == taken {
			t.Fatalf("byte %d of %v is %v twice", i, o, taken)
		} else {
			*b = taken
		}
	}
}

// slabs by looking for each page there can be, in turn.
func (m *model) slabs() []api.Place {
	var l []api.Place
	for node, pages := range m.nodes {
		for at := range pages {
			if p := (api.Place{Node: node, B: api.Block{At: at}}); m.pages[p] != nil {
				l = append(l, p)
			}
		}
	}
	return l
}

func (m *model) taken() []api.Object {
	var l []api.Object
	for _, p := range m.slabs() {
		l = append(l, m.objects(p, true)...)
	}
	return l
}

// of a node the slabs that have just so many free objects.
func (m *model) of(node, free int) []api.Place {
	return slices.DeleteFunc(m.slabs(), func(p api.Place) bool { return p.Node != node || len(m.objects(p, false)) != free })
}

func (m *model) take(t *testing.T, node int, urgent bool) (api.Object, error) {
	t.Helper()
	if node < 0 || node >= len(m.nodes) {
		return api.Object{}, api.ErrBound
	}
	for free := 1; free <= 64/m.size; free++ {
		if l := m.of(node, free); len(l) > 0 {
			o := m.objects(l[0], false)[0]
			m.set(t, o, true)
			return o, nil
		}
	}
	p, err := m.z.Take(node, 0, urgent)
	if err != nil {
		return api.Object{}, err
	}
	m.pages[p] = new([64]bool)
	o := api.Object{Node: p.Node, At: p.B.At * 64}
	m.set(t, o, true)
	return o, nil
}

func (m *model) give(t *testing.T, o api.Object) error {
	t.Helper()
	if !slices.Contains(m.taken(), o) {
		return api.ErrStale
	}
	m.set(t, o, false)
	return nil
}

func (m *model) shrink(t *testing.T, node, most int) (int, error) {
	t.Helper()
	if node < 0 || node >= len(m.nodes) || most < 0 {
		return 0, api.ErrBound
	}
	l := m.of(node, 64/m.size)
	slices.Reverse(l)
	l = l[:min(most, len(l))]
	for _, p := range l {
		if err := m.z.Give(p); err != nil {
			t.Fatal(p, err)
		}
		delete(m.pages, p)
	}
	return len(l), nil
}

func (m *model) sight() string {
	taken := m.taken()
	return fmt.Sprint(m.size, len(taken), len(m.pages)*(64/m.size), m.slabs(), taken, zoneSight(m.z))
}

// call is a Take, a Give or a Shrink of the cache, or a Take or a Give of its zone by somebody else.
type call struct {
	kind       int
	node, most int
	urgent     bool
	o          api.Object
	p          api.Place
}

const (
	takes = iota
	gives
	shrinks
	others
	othersGive
)

// makeCall makes it of a cache and of the model, and holds the answers against each other.
func makeCall(t *testing.T, z *zone.Zone, c *slab.Cache, m *model, x call) {
	t.Helper()
	var got, want string
	switch x.kind {
	case takes:
		o, err := c.Take(x.node, x.urgent)
		q, e := m.take(t, x.node, x.urgent)
		got, want = fmt.Sprint(o, err), fmt.Sprint(q, e)
	case gives:
		got, want = fmt.Sprint(c.Give(x.o)), fmt.Sprint(m.give(t, x.o))
	case shrinks:
		n, err := c.Shrink(x.node, x.most)
		k, e := m.shrink(t, x.node, x.most)
		got, want = fmt.Sprint(n, err), fmt.Sprint(k, e)
	case others:
		p, err := z.Take(x.node, x.most, x.urgent)
		q, e := m.z.Take(x.node, x.most, x.urgent)
		got, want = fmt.Sprint(p, err), fmt.Sprint(q, e)
	case othersGive:
		got, want = fmt.Sprint(z.Give(x.p)), fmt.Sprint(m.z.Give(x.p))
	}
	if got != want {
		t.Fatalf("%+v: %s, want %s; %s", x, got, want, m.sight())
	}
}

// same holds all that can be told of a cache against the model.
func same(t *testing.T, z *zone.Zone, c *slab.Cache, m *model) {
	t.Helper()
	if got, want := sight(t, z, c), m.sight(); got != want {
		t.Fatalf("%s; want %s", got, want)
	}
}

// everyCall is all that may be asked of a cache, and some that may not; each object that is one, and the bytes beside it.
func everyCall(c zone.Config, size int) []call {
	var l []call
	for node := -1; node <= len(c.Pages); node++ {
		l = append(l, call{kind: takes, node: node}, call{kind: takes, node: node, urgent: true})
		for most := -1; most <= 3; most++ {
			l = append(l, call{kind: shrinks, node: node, most: most})
		}
		for page := -1; page <= slices.Max(c.Pages); page++ {
			for at := 0; at <= 64; at += size {
				for beside := -1; beside <= 1; beside++ {
					l = append(l, call{kind: gives, o: api.Object{Node: node, At: page*64 + at + beside}})
				}
			}
		}
	}
	return l
}

func TestAllStates(t *testing.T) { // P41, P42, P43: each state that few pages can come to, and each call there
	for _, x := range []struct {
		c    zone.Config
		size int
		more []call
	}{
		{nodes(0, 2), 20, nil},
		{nodes(1, 3), 32, []call{{kind: others, most: 1, urgent: true}}},
		{nodes(1, 2, 1), 30, []call{{kind: others, node: 1}}},
		{nodes(0, 1, 1, 1), 25, nil},
		{nodes(0, 1, 1, 2), 64, []call{{kind: others, node: 2, most: 1}}},
		{nodes(0, 1), 12, nil},
	} {
		calls := append(everyCall(x.c, x.size), x.more...)
		seen := map[string]bool{}
		ways := [][]call{nil} // the calls that lead to a state: a cache has no copy
		for len(ways) > 0 {
			way := ways[0]
			ways = ways[1:]
			for _, last := range calls {
				z, c := start(t, x.c, x.size)
				m := newModel(t, x.c, x.size)
				for _, y := range append(slices.Clone(way), last) {
					makeCall(t, z, c, m, y)
				}
				same(t, z, c, m)
				if key := m.sight(); !seen[key] {
					seen[key] = true
					ways = append(ways, append(slices.Clone(way), last))
				}
			}
		}
		if len(seen) < 20 {
			t.Errorf("%v, %d: %d states only", x.c, x.size, len(seen))
		}
	}
}

func TestWalk(t *testing.T) { // P41, P42, P43: long ways over many pages that others share, and back to the beginning
	for i, x := range []struct {
		c    zone.Config
		size int
	}{
		{nodes(0, 256), 1},
		{nodes(2, 16), 8},
		{nodes(1, 9, 6), 13},
		{nodes(0, 20, 5, 30), 30},
		{nodes(3, 8, 8, 8, 8), 21},
		{nodes(1, 12, 3, 3, 1), 33},
		{nodes(0, 5, 5), 64},
	} {
		z, c := start(t, x.c, x.size)
		m := newModel(t, x.c, x.size)
		first := zoneSight(z)
		seed := uint32(i)
		next := func(n int) int {
			seed = seed*1664525 + 1013904223
			return int(seed>>8) % n
		}
		var held []api.Place // by others
		for step := range 1500 {
			taken := m.taken()
			up := step/150%2 == 0 // more is taken than given for a while, then less
			switch k := next(20); {
			case k < 2:
				makeCall(t, z, c, m, call{kind: shrinks, node: next(len(m.nodes)), most: next(4)})
			case k < 3 && len(held) < 4:
				p, err := z.Take(next(len(m.nodes)), next(2), false)
				if err != nil {
					continue
				}
				if q, e := m.z.Take(p.Node, p.B.Order, true); q != p || e != nil {
					t.Fatal(p, q, e)
				}
				held = append(held, p)
			case k < 4 && len(held) > 0:
				makeCall(t, z, c, m, call{kind: othersGive, p: held[0]})
				held = held[1:]
			case len(taken) == 0 || up == (k < 16):
				makeCall(t, z, c, m, call{kind: takes, node: next(len(m.nodes)), urgent: next(4) == 0})
			default:
				makeCall(t, z, c, m, call{kind: gives, o: taken[next(len(taken))]})
			}
			same(t, z, c, m)
		}
		for _, p := range held {
			makeCall(t, z, c, m, call{kind: othersGive, p: p})
		}
		for l := m.taken(); len(l) > 0; l = m.taken() {
			makeCall(t, z, c, m, call{kind: gives, o: l[next(len(l))]})
		}
		for node := range m.nodes {
			makeCall(t, z, c, m, call{kind: shrinks, node: node, most: 256})
		}
		same(t, z, c, m)
		if got := zoneSight(z); got != first || len(c.Slabs()) != 0 {
			t.Fatal(got, first, c.Slabs())
		}
	}
}

func TestAllPages(t *testing.T) { // P43: as many nodes, pages and objects as there can be, and all of it again
	z, c := start(t, nodes(0, 256, 256, 256, 256), 16)
	first := zoneSight(z)
	for i := range 4096 {
		want := api.Object{Node: i / 1024, At: i % 1024 * 16}
		if o, err := c.Take(want.Node, false); o != want || err != nil {
			t.Fatal(i, o, err)
		}
	}
	if _, err := c.Take(0, true); err != api.ErrFull {
		t.Error(err)
	}
	if taken, room := c.Count(); taken != 4096 || room != 4096 || len(c.Taken()) != 4096 || len(c.Slabs()) != 1024 {
		t.Error(taken, room)
	}
	give(t, c, c.Taken()...)
	for node := range 4 {
		shrink(t, c, node, 300, 256)
	}
	if got := zoneSight(z); got != first {
		t.Error(got, first)
	}
}

func TestSameAnswers(t *testing.T) { // P2: the same calls, the same answers
	tell := func() (s string) {
		z, c := start(t, nodes(1, 3, 4, 2), 18)
		for i := range 80 {
			o, err := c.Take(i%3, i%7 == 0)
			s += fmt.Sprint(o, err)
			if i%3 == 0 && err == nil {
				s += fmt.Sprint(c.Give(o), sight(t, z, c))
			}
			if i%11 == 0 {
				n, err := c.Shrink(i%3, 1)
				s += fmt.Sprint(n, err)
			}
		}
		return s
	}
	first := tell()
	for range 20 {
		if got := tell(); got != first {
			t.Fatal(got, first)
		}
	}
}
