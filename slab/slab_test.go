package slab_test

import (
	"fmt"
	"math"
	"slices"
	"testing"

	"slabyard/api"
	"slabyard/slab"
	"slabyard/zone"
)

// wild are numbers far from all that is asked for.
var wild = []int{math.MinInt, math.MinInt + 1, -1 << 32, 1 << 32, 1<<32 + 1, math.MaxInt - 1, math.MaxInt}

// nodes are as many as pages, each as far from each other one.
func nodes(least int, pages ...int) zone.Config {
	c := zone.Config{Pages: pages, Marks: api.Marks{Min: least, Low: least, High: least}}
	for i := range pages {
		far := slices.Repeat([]int{1}, len(pages))
		far[i] = 0
		c.Near = append(c.Near, far)
	}
	return c
}

func start(t *testing.T, c zone.Config, size int) (*zone.Zone, *slab.Cache) {
	t.Helper()
	z, err := zone.New(c)
	if err != nil {
		t.Fatal(c, err)
	}
	return z, over(t, z, size)
}

func over(t *testing.T, z *zone.Zone, size int) *slab.Cache {
	t.Helper()
	c, err := slab.New(z, size)
	if err != nil {
		t.Fatal(size, err)
	}
	return c
}

// sight is all that can be told of a cache and of its zone.
func sight(t *testing.T, z *zone.Zone, c *slab.Cache) string {
	t.Helper()
	taken, room := c.Count()
	return fmt.Sprint(c.Size(), taken, room, c.Slabs(), c.Taken(), zoneSight(z))
}

func zoneSight(z *zone.Zone) (s string) {
	for node := 0; ; node++ {
		b, err := z.Node(node)
		if err != nil {
			return s
		}
		s += fmt.Sprint(b.Free(), b.Taken())
	}
}

// has holds slabs and taken objects against texts.
func has(t *testing.T, c *slab.Cache, slabs, taken string) {
	t.Helper()
	if s, l := fmt.Sprint(c.Slabs()), fmt.Sprint(c.Taken()); s != slabs || l != taken {
		t.Fatalf("slabs %s, taken %s; want %s, %s", s, l, slabs, taken)
	}
}

// take holds each answer at a node against a text, in turn.
func take(t *testing.T, c *slab.Cache, node int, wants ...string) {
	t.Helper()
	for i, want := range wants {
		if o, err := c.Take(node, false); fmt.Sprint(o) != want || err != nil {
			t.Fatalf("take %d at %d: %v, %v, want %s", i, node, o, err, want)
		}
	}
}

func give(t *testing.T, c *slab.Cache, l ...api.Object) {
	t.Helper()
	for _, o := range l {
		if err := c.Give(o); err != nil {
			t.Fatal(o, err)
		}
	}
}

func shrink(t *testing.T, c *slab.Cache, node, most, want int) {
	t.Helper()
	if n, err := c.Shrink(node, most); n != want || err != nil {
		t.Fatalf("shrink %d by %d: %d, %v, want %d", node, most, n, err, want)
	}
}

func takePage(t *testing.T, z *zone.Zone, node, order int) api.Place {
	t.Helper()
	p, err := z.Take(node, order, true)
	if err != nil {
		t.Fatal(node, order, err)
	}
	return p
}

func TestNewErrors(t *testing.T) { // P40: ErrShape ahead of ErrBound
	z, err := zone.New(nodes(0, 1))
	if err != nil {
		t.Fatal(err)
	}
	sizes := append([]int{-64, -1, 0, 65, 66, 128}, wild...)
	for _, size := range sizes {
		if c, err := slab.New(z, size); c != nil || err != api.ErrBound {
			t.Error(size, c, err)
		}
	}
	for _, size := range append([]int{1, 30, 64}, sizes...) {
		if c, err := slab.New(nil, size); c != nil || err != api.ErrShape {
			t.Error(size, c, err)
		}
	}
}

func TestNewHasNothing(t *testing.T) { // P40, P42: no slab is taken ahead of the first object
	for size := 1; size <= api.MaxObject; size++ {
		z, c := start(t, nodes(0, 3, 2), size)
		taken, room := c.Count()
		if c.Size() != size || taken != 0 || room != 0 || len(c.Slabs()) != 0 || len(c.Taken()) != 0 || zoneSight(z) != "[{0 1} {2 0}] [][{0 1}] []" {
			t.Error(sight(t, z, c))
		}
	}
}

func TestObjectsOfAPage(t *testing.T) { // P40: Page over size, down, from the first byte on, of each size there is
	for size := 1; size <= api.MaxObject; size++ {
		z, c := start(t, nodes(0, 2), size)
		var want []api.Object
		for page := range 2 {
			for at := 0; at+size <= 64; at += size {
				o, err := c.Take(0, false)
				want = append(want, api.Object{At: 64*page + at})
				taken, room := c.Count()
				if o != want[len(want)-1] || err != nil || taken != len(want) || room != (page+1)*(64/size) || !slices.Equal(c.Taken(), want) {
					t.Fatal(size, o, err, taken, room, want)
				}
			}
		}
		before := sight(t, z, c)
		if o, err := c.Take(0, false); o != (api.Object{}) || err != api.ErrFull || sight(t, z, c) != before {
			t.Error(size, o, err, before)
		}
	}
}

func TestTakeOfTheFullest(t *testing.T) { // P41: the fewest free ones, but not none; of as many that which begins first
	_, c := start(t, nodes(0, 8), 16)
	for i := range 16 {
		take(t, c, 0, fmt.Sprintf("{0 %d}", i*16))
	}
	give(t, c, api.Object{At: 0}, api.Object{At: 48}, api.Object{At: 64}, api.Object{At: 80}, api.Object{At: 96}, api.Object{At: 160}, api.Object{At: 144})
	take(t, c, 0, "{0 0}", "{0 48}", "{0 144}", "{0 160}", "{0 64}", "{0 80}", "{0 96}", "{0 256}")
	_, c = start(t, nodes(0, 8), 16)
	for i := range 12 {
		take(t, c, 0, fmt.Sprintf("{0 %d}", i*16))
	}
	give(t, c, api.Object{At: 0}, api.Object{At: 16}, api.Object{At: 176})
	take(t, c, 0, "{0 176}", "{0 0}", "{0 16}", "{0 192}")
}

func TestTakeOfAnEmptySlab(t *testing.T) { // P41: a slab stays, and is taken of behind the others and ahead of a new one
	z, c := start(t, nodes(0, 4), 32)
	take(t, c, 0, "{0 0}", "{0 32}", "{0 64}", "{0 96}", "{0 128}")
	give(t, c, api.Object{At: 0}, api.Object{At: 32}, api.Object{At: 96})
	has(t, c, "[{0 {0 0}} {0 {1 0}} {0 {2 0}}]", "[{0 64} {0 128}]")
	take(t, c, 0, "{0 96}", "{0 160}", "{0 0}", "{0 32}", "{0 192}")
	give(t, c, c.Taken()...)
	has(t, c, "[{0 {0 0}} {0 {1 0}} {0 {2 0}} {0 {3 0}}]", "[]")
	if taken, room := c.Count(); taken != 0 || room != 8 {
		t.Error(taken, room)
	}
	if n, err := z.Free(0); n != 0 || err != nil {
		t.Error(n, err)
	}
}

func TestTakeOfThisNodeAlone(t *testing.T) { // P41: free objects of another node's slabs are left; a new slab may lie on one
	z, c := start(t, nodes(0, 1, 4), 32)
	take(t, c, 1, "{1 0}")
	take(t, c, 0, "{0 0}", "{0 32}", "{1 64}", "{1 128}", "{1 192}")
	has(t, c, "[{0 {0 0}} {1 {0 0}} {1 {1 0}} {1 {2 0}} {1 {3 0}}]", "[{0 0} {0 32} {1 0} {1 64} {1 128} {1 192}]")
	before := sight(t, z, c)
	for _, urgent := range []bool{false, true} { // room is on node 1, and no page anywhere
		if o, err := c.Take(0, urgent); o != (api.Object{}) || err != api.ErrFull || sight(t, z, c) != before {
			t.Error(urgent, o, err)
		}
	}
	take(t, c, 1, "{1 32}", "{1 96}", "{1 160}", "{1 224}")
	give(t, c, api.Object{At: 32}, api.Object{Node: 1, At: 96})
	take(t, c, 0, "{0 32}")
	take(t, c, 1, "{1 96}")
}

func TestTakeUrgent(t *testing.T) { // P41: ErrLow of the zone; who is urgent gets what must stay, and a slab that is there is for all
	z, c := start(t, nodes(1, 2), 32)
	take(t, c, 0, "{0 0}", "{0 32}")
	before := sight(t, z, c)
	if o, err := c.Take(0, false); o != (api.Object{}) || err != api.ErrLow || sight(t, z, c) != before {
		t.Error(o, err)
	}
	if o, err := c.Take(0, true); o != (api.Object{At: 64}) || err != nil {
		t.Error(o, err)
	}
	take(t, c, 0, "{0 96}")
	for _, urgent := range []bool{false, true} {
		if o, err := c.Take(0, urgent); o != (api.Object{}) || err != api.ErrFull {
			t.Error(urgent, o, err)
		}
	}
}

func TestTakeOfNoNode(t *testing.T) { // P41: ErrBound, with slabs and without
	for n := 1; n <= 4; n++ {
		z, c := start(t, nodes(0, slices.Repeat([]int{1}, n)...), 10)
		for range 2 {
			before := sight(t, z, c)
			for _, node := range append([]int{-1, n, n + 1}, wild...) {
				for _, urgent := range []bool{false, true} {
					if o, err := c.Take(node, urgent); o != (api.Object{}) || err != api.ErrBound || sight(t, z, c) != before {
						t.Error(n, node, o, err)
					}
				}
			}
			if _, err := c.Take(n-1, false); err != nil {
				t.Fatal(err)
			}
		}
	}
}

func TestGiveStale(t *testing.T) { // P41: all that is not taken, just so; nothing is changed
	z, c := start(t, nodes(0, 4, 2), 25)
	take(t, c, 0, "{0 0}", "{0 25}", "{0 64}", "{0 89}")
	take(t, c, 1, "{1 0}", "{1 25}", "{1 64}")
	give(t, c, api.Object{At: 25}, api.Object{Node: 1, At: 0})
	taken := []api.Object{{At: 0}, {At: 64}, {At: 89}, {Node: 1, At: 25}, {Node: 1, At: 64}}
	before := sight(t, z, c)
	stale := func(o api.Object) {
		t.Helper()
		if err := c.Give(o); err != api.ErrStale || sight(t, z, c) != before {
			t.Fatal(o, err)
		}
	}
	for node := -1; node <= 3; node++ {
		for at := -130; at <= 400; at++ {
			if o := (api.Object{Node: node, At: at}); !slices.Contains(taken, o) {
				stale(o)
			}
		}
		for _, at := range append([]int{math.MinInt + 64, math.MaxInt - 63, 1<<32 + 64, -1<<32 + 64}, wild...) {
			stale(api.Object{Node: node, At: at})
		}
	}
	for _, node := range wild {
		stale(api.Object{Node: node})
		stale(api.Object{Node: node, At: 64})
	}
	for _, o := range taken {
		give(t, c, o)
		before = sight(t, z, c)
		stale(o) // twice
	}
}

func TestShrink(t *testing.T) { // P42: the last one first, at most that many, none that has a taken object
	z, c := start(t, nodes(0, 8), 32)
	for i := range 12 {
		take(t, c, 0, fmt.Sprintf("{0 %d}", i*32))
	}
	give(t, c, api.Object{At: 0}, api.Object{At: 32}, api.Object{At: 128}, api.Object{At: 160}, api.Object{At: 192}, api.Object{At: 320}, api.Object{At: 352})
	shrink(t, c, 0, 0, 0)
	has(t, c, "[{0 {0 0}} {0 {1 0}} {0 {2 0}} {0 {3 0}} {0 {4 0}} {0 {5 0}}]", "[{0 64} {0 96} {0 224} {0 256} {0 288}]")
	shrink(t, c, 0, 2, 2)
	has(t, c, "[{0 {0 0}} {0 {1 0}} {0 {3 0}} {0 {4 0}}]", "[{0 64} {0 96} {0 224} {0 256} {0 288}]")
	if got := zoneSight(z); got != "[{2 0} {5 0} {6 1}] [{0 0} {1 0} {3 0} {4 0}]" {
		t.Error(got)
	}
	shrink(t, c, 0, math.MaxInt, 1)
	shrink(t, c, 0, math.MaxInt, 0)
	has(t, c, "[{0 {1 0}} {0 {3 0}} {0 {4 0}}]", "[{0 64} {0 96} {0 224} {0 256} {0 288}]")
	if taken, room := c.Count(); taken != 5 || room != 6 {
		t.Error(taken, room)
	}
	take(t, c, 0, "{0 192}", "{0 0}", "{0 32}", "{0 128}", "{0 160}", "{0 320}") // a page that went back is as good as any
}

func TestShrinkOfThisNodeAlone(t *testing.T) { // P42: those of other nodes stay; by where it lies, not by who asked for it
	z, c := start(t, nodes(0, 2, 4), 64)
	take(t, c, 0, "{0 0}", "{0 64}", "{1 0}")
	take(t, c, 1, "{1 64}")
	give(t, c, c.Taken()...)
	shrink(t, c, 1, 1, 1)
	has(t, c, "[{0 {0 0}} {0 {1 0}} {1 {0 0}}]", "[]")
	shrink(t, c, 0, 5, 2)
	has(t, c, "[{1 {0 0}}]", "[]")
	shrink(t, c, 0, 5, 0)
	shrink(t, c, 1, 1, 1)
	has(t, c, "[]", "[]")
	if got := zoneSight(z); got != "[{0 1}] [][{0 2}] []" {
		t.Error(got)
	}
}

func TestShrinkBounds(t *testing.T) { // P42: node, most below 0
	for n := 1; n <= 4; n++ {
		z, c := start(t, nodes(0, slices.Repeat([]int{1}, n)...), 10)
		for range 2 {
			before := sight(t, z, c)
			wrong := func(node, most int) {
				t.Helper()
				if k, err := c.Shrink(node, most); k != 0 || err != api.ErrBound || sight(t, z, c) != before {
					t.Error(n, node, most, k, err)
				}
			}
			for _, node := range append([]int{-1, n, n + 1}, wild...) {
				for _, most := range []int{-1, 0, 1, math.MaxInt} {
					wrong(node, most)
				}
			}
			for node := range n {
				for _, most := range []int{-1, -2, -1 << 32, math.MinInt} {
					wrong(node, most)
				}
			}
			take(t, c, n-1, fmt.Sprintf("{%d 0}", n-1)) // and again with a slab that could go
			give(t, c, c.Taken()...)
		}
	}
}

func TestRising(t *testing.T) { // P42: by node, then where they begin, however they came
	z, c := start(t, nodes(0, 4, 4, 4), 40)
	holes := []api.Place{takePage(t, z, 1, 0), takePage(t, z, 1, 0)}
	take(t, c, 2, "{2 0}")
	take(t, c, 1, "{1 128}")
	take(t, c, 0, "{0 0}")
	take(t, c, 2, "{2 64}")
	for _, p := range slices.Backward(holes) {
		if err := z.Give(p); err != nil {
			t.Fatal(p, err)
		}
		take(t, c, 1, fmt.Sprintf("{1 %d}", p.B.At*64))
	}
	has(t, c, "[{0 {0 0}} {1 {0 0}} {1 {1 0}} {1 {2 0}} {2 {0 0}} {2 {1 0}}]", "[{0 0} {1 0} {1 64} {1 128} {2 0} {2 64}]")
	if taken, room := c.Count(); taken != 6 || room != 6 {
		t.Error(taken, room)
	}
}

func TestSharedZone(t *testing.T) { // P40, P41: pages of others are left alone, and objects of another cache are stale
	z, a := start(t, nodes(0, 8), 32)
	b := over(t, z, 32)
	pages := takePage(t, z, 0, 1)
	take(t, a, 0, "{0 128}")
	take(t, b, 0, "{0 192}")
	take(t, a, 0, "{0 160}", "{0 256}")
	take(t, b, 0, "{0 224}", "{0 320}")
	has(t, a, "[{0 {2 0}} {0 {4 0}}]", "[{0 128} {0 160} {0 256}]")
	has(t, b, "[{0 {3 0}} {0 {5 0}}]", "[{0 192} {0 224} {0 320}]")
	for _, o := range b.Taken() {
		if err := a.Give(o); err != api.ErrStale {
			t.Error(o, err)
		}
	}
	give(t, a, a.Taken()...)
	shrink(t, b, 0, 9, 0)
	shrink(t, a, 0, 9, 2)
	has(t, b, "[{0 {3 0}} {0 {5 0}}]", "[{0 192} {0 224} {0 320}]")
	give(t, b, b.Taken()...)
	shrink(t, b, 0, 9, 2)
	if got := zoneSight(z); got != "[{2 1} {4 2}] [{0 1}]" {
		t.Error(got)
	}
	if err := z.Give(pages); err != nil {
		t.Error(err)
	}
}

func TestPageGivenByOthers(t *testing.T) { // P1, P42: a slab whose page the zone has already goes all the same
	z, c := start(t, nodes(0, 2), 64)
	take(t, c, 0, "{0 0}", "{0 64}")
	give(t, c, c.Taken()...)
	if err := z.Give(c.Slabs()[0]); err != nil {
		t.Fatal(err)
	}
	shrink(t, c, 0, 9, 2)
	has(t, c, "[]", "[]")
	if got := zoneSight(z); got != "[{0 1}] []" {
		t.Error(got)
	}
}

func TestNoZone(t *testing.T) { // P1: a cache without a zone, such as might be handed to what stands ahead of it
	c := &slab.Cache{}
	if o, err := c.Take(0, true); o != (api.Object{}) || err != api.ErrBound {
		t.Error(o, err)
	}
	if n, err := c.Shrink(0, 1); n != 0 || err != api.ErrBound {
		t.Error(n, err)
	}
	taken, room := c.Count()
	if err := c.Give(api.Object{}); err != api.ErrStale || taken != 0 || room != 0 || c.Size() != 0 {
		t.Error(err, taken, room, c.Size())
	}
	has(t, c, "[]", "[]")
	c = over(t, &zone.Zone{}, 8) // and a zone without a node
	if o, err := c.Take(0, true); o != (api.Object{}) || err != api.ErrBound {
		t.Error(o, err)
	}
}

func TestHas(t *testing.T) { // the zone's nodes, whatever they have left
	for n := 1; n <= 4; n++ {
		_, c := start(t, nodes(0, slices.Repeat([]int{1}, n)...), 64)
		for range 2 {
			for node := range n {
				if !c.Has(node) {
					t.Error(n, node)
				}
			}
			for _, node := range append([]int{-1, n, n + 1}, wild...) {
				if c.Has(node) {
					t.Error(n, node)
				}
			}
			take(t, c, 0, "{0 0}")
			give(t, c, api.Object{})
		}
	}
	if (&slab.Cache{}).Has(0) {
		t.Error("a node of no zone")
	}
}

func TestAnswersAreNew(t *testing.T) { // P4: what is written into them is seen by nobody
	z, c := start(t, nodes(0, 2, 2), 20)
	take(t, c, 0, "{0 0}", "{0 20}", "{0 40}", "{0 64}")
	take(t, c, 1, "{1 0}")
	before := sight(t, z, c)
	clear(c.Slabs())
	clear(c.Taken())
	if got := sight(t, z, c); got != before {
		t.Error(got, before)
	}
	slabs, taken := c.Slabs(), c.Taken()
	told := fmt.Sprint(slabs, taken)
	give(t, c, c.Taken()...)
	shrink(t, c, 0, 9, 2)
	if got := fmt.Sprint(slabs, taken); got != told {
		t.Error(got, told)
	}
}
