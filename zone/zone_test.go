package zone_test

import (
	"fmt"
	"math"
	"slices"
	"testing"

	"slabyard/api"
	"slabyard/buddy"
	"slabyard/zone"
)

// model is what a zone ought to be: of each node its buddies, which is tested for itself.
type model struct {
	c     zone.Config
	nodes []*buddy.Buddy
}

func newModel(t *testing.T, c zone.Config) model {
	t.Helper()
	m := model{c: c}
	for _, pages := range c.Pages {
		b, err := buddy.New(pages)
		if err != nil {
			t.Fatal(err)
		}
		m.nodes = append(m.nodes, b)
	}
	return m
}

func (m model) free(node int) int {
	n, _ := m.nodes[node].Pages()
	return n
}

// take tries it out on a copy of each node, and looks at what is left behind it.
func (m model) take(node, k int, urgent bool) (api.Place, error) {
	if node < 0 || node >= len(m.nodes) || k < 0 || k > 6 {
		return api.Place{}, api.ErrBound
	}
	answer := api.ErrFull
	for _, n := range order(m.c, node) {
		b := m.nodes[n].Copy()
		x, err := b.Take(k)
		if err != nil {
			continue
		}
		if left, _ := b.Pages(); !urgent && left < m.c.Marks.Min {
			answer = api.ErrLow
			continue
		}
		m.nodes[n] = b
		return api.Place{Node: n, B: x}, nil
	}
	return api.Place{}, answer
}

func (m model) give(p api.Place) error {
	if p.Node < 0 || p.Node >= len(m.nodes) {
		return api.ErrBound
	}
	return m.nodes[p.Node].Give(p.B)
}

// taken lists all that is.
func (m model) taken() []api.Place {
	var l []api.Place
	for node, b := range m.nodes {
		for _, x := range b.Taken() {
			l = append(l, api.Place{Node: node, B: x})
		}
	}
	return l
}

// same holds all that a zone tells of its nodes against the model.
func same(t *testing.T, z *zone.Zone, m model) {
	t.Helper()
	for node, want := range m.nodes {
		b, err := z.Node(node)
		if err != nil {
			t.Fatal(node, err)
		}
		_, all := b.Pages()
		if !slices.Equal(b.Free(), want.Free()) || !slices.Equal(b.Taken(), want.Taken()) || all != m.c.Pages[node] {
			t.Fatalf("node %d: free %v, taken %v of %d; want %v, %v", node, b.Free(), b.Taken(), all, want.Free(), want.Taken())
		}
		lack := 0
		for m.free(node)+lack < m.c.Marks.High {
			lack++
		}
		told(t, z, node, m.free(node), m.free(node) < m.c.Marks.Low, lack)
	}
}

// told holds what is asked of a node against what it ought to be.
func told(t *testing.T, z *zone.Zone, node, free int, low bool, lack int) {
	t.Helper()
	n, e1 := z.Free(node)
	l, e2 := z.Low(node)
	k, e3 := z.Lack(node)
	if n != free || l != low || k != lack || e1 != nil || e2 != nil || e3 != nil {
		t.Fatalf("node %d: free %d, low %v, lack %d; want %d, %v, %d (%v, %v, %v)", node, n, l, k, free, low, lack, e1, e2, e3)
	}
}

func start(t *testing.T, c zone.Config) *zone.Zone {
	t.Helper()
	z, err := zone.New(c)
	if err != nil {
		t.Fatal(c, err)
	}
	return z
}

// see holds free and taken blocks of all nodes against a text.
func see(t *testing.T, z *zone.Zone, want string) {
	t.Helper()
	if got := sight(t, z); got != want {
		t.Fatalf("%s; want %s", got, want)
	}
}

func sight(t *testing.T, z *zone.Zone) (s string) {
	t.Helper()
	for node := 0; ; node++ {
		b, err := z.Node(node)
		if err != nil {
			return s
		}
		s += fmt.Sprint(b.Free(), b.Taken())
	}
}

// step is one Take, and what it answers.
type step struct {
	node, order int
	urgent      bool
	want        string
}

func steps(t *testing.T, z *zone.Zone, l []step) {
	t.Helper()
	for i, s := range l {
		before := sight(t, z)
		p, err := z.Take(s.node, s.order, s.urgent)
		got := fmt.Sprint(p)
		if err != nil {
			got = err.Error()
			if p != (api.Place{}) {
				t.Errorf("step %d: %v with %v", i, p, err)
			}
			see(t, z, before)
		}
		if got != s.want {
			t.Fatalf("step %d, %v: %s", i, s, got)
		}
	}
}

const (
	bound = "slabyard: bound"
	low   = "slabyard: low"
	full  = "slabyard: full"
)

func TestNew(t *testing.T) { // P31: buddies for each node
	for n := 1; n <= 4; n++ {
		for _, pages := range []int{1, 6, 100, 256} {
			c := flat(n)
			for node := range c.Pages {
				c.Pages[node] = max(1, pages-node)
			}
			same(t, start(t, c), newModel(t, c))
		}
	}
}

func TestConfigIsNotKept(t *testing.T) { // P4: what becomes of it later does not show
	c := zone.Config{Pages: []int{2, 2, 2}, Near: [][]int{{0, 2, 1}, {1, 0, 2}, {1, 2, 0}}, Marks: api.Marks{Min: 1, Low: 1, High: 1}}
	z := start(t, c)
	if got := fmt.Sprint(c); got != "{[2 2 2] [[0 2 1] [1 0 2] [1 2 0]] {1 1 1}}" {
		t.Fatal(got)
	}
	clear(c.Pages)
	c.Near[0][1], c.Near[0][2] = 1, 2
	c.Near[1], c.Near[2] = nil, nil
	steps(t, z, []step{{0, 0, false, "{0 {0 0}}"}, {0, 0, false, "{2 {0 0}}"}, {0, 0, false, "{1 {0 0}}"}, {0, 0, false, low}, {0, 1, true, full}})
}

func TestTakeByOrder(t *testing.T) { // P31: the first of Order's nodes on which it can be had
	c := zone.Config{Pages: []int{2, 4, 1}, Near: [][]int{{0, 5, 1}, {5, 0, 5}, {3, 3, 0}}}
	steps(t, start(t, c), []step{
		{0, 1, true, "{0 {0 1}}"},
		{0, 1, true, "{1 {0 1}}"}, // 2 is nearer, but has none so wide
		{0, 0, true, "{2 {0 0}}"},
		{0, 0, true, "{1 {2 0}}"},
		{2, 0, true, "{1 {3 0}}"},
		{1, 0, true, full},
	})
	steps(t, start(t, c), []step{
		{2, 1, true, "{0 {0 1}}"}, // as far as 1, and the first by number
		{2, 2, true, "{1 {0 2}}"},
		{1, 1, true, full},
		{1, 0, true, "{2 {0 0}}"},
	})
	z := start(t, c)
	steps(t, z, []step{{1, 0, true, "{1 {0 0}}"}, {1, 1, true, "{1 {2 1}}"}, {1, 0, true, "{1 {1 0}}"}, {1, 0, true, "{0 {0 0}}"}})
	see(t, z, "[{1 0}] [{0 0}][] [{0 0} {1 0} {2 1}][{0 0}] []")
}

func TestTakeLeavesMin(t *testing.T) { // P31, P33: who is not urgent leaves it, and may leave just that
	for pages := 1; pages <= 20; pages++ {
		for least := 0; least <= pages+1; least++ {
			for k, size := range []int{1, 2, 4, 8, 16, 32} {
				c := zone.Config{Pages: []int{pages}, Near: [][]int{{0}}, Marks: api.Marks{Min: least, Low: least, High: least}}
				var want error
				left := pages - size
				switch {
				case size > pages:
					want, left = api.ErrFull, pages
				case left < least:
					want, left = api.ErrLow, pages
				}
				z := start(t, c)
				p, err := z.Take(0, k, false)
				n, _ := z.Free(0)
				if err != want || n != left {
					t.Errorf("%d pages, min %d, order %d: %v, %v, %d are free; want %v, %d", pages, least, k, p, err, n, want, left)
				}
			}
		}
	}
}

func TestTakeFartherForMin(t *testing.T) { // P31: a nearer node that must keep its pages is passed over, but not by who is urgent
	c := zone.Config{Pages: []int{3, 8}, Near: [][]int{{0, 1}, {1, 0}}, Marks: api.Marks{Min: 2, Low: 2, High: 2}}
	steps(t, start(t, c), []step{{0, 1, false, "{1 {0 1}}"}, {0, 0, false, "{0 {2 0}}"}, {0, 0, false, "{1 {2 0}}"}, {0, 0, true, "{0 {0 0}}"}, {0, 0, true, "{0 {1 0}}"}})
	steps(t, start(t, c), []step{{0, 1, true, "{0 {0 1}}"}, {0, 0, false, "{1 {0 0}}"}, {0, 0, true, "{0 {2 0}}"}})
}

func TestLowOrFull(t *testing.T) { // P31: ErrLow where somebody urgent could have it, on whichever node; else ErrFull
	c := zone.Config{Pages: []int{1, 4, 2}, Near: [][]int{{0, 1, 2}, {1, 0, 2}, {1, 2, 0}}, Marks: api.Marks{Min: 4, Low: 4, High: 4}}
	steps(t, start(t, c), []step{
		{0, 0, false, low},
		{0, 1, false, low},
		{0, 2, false, low}, // only 1 has it
		{0, 3, false, full},
		{0, 2, true, "{1 {0 2}}"},
		{0, 2, false, full},
		{1, 1, false, low}, // only 2 has it, which is the farthest
		{0, 1, true, "{2 {0 1}}"},
		{1, 0, false, low},
		{1, 0, true, "{0 {0 0}}"},
		{1, 0, false, full},
		{1, 0, true, full},
	})
	// Pages enough, but in no block so wide: as full for one as for the other.
	c = zone.Config{Pages: []int{4}, Near: [][]int{{0}}, Marks: api.Marks{Min: 1, Low: 1, High: 1}}
	z := start(t, c)
	steps(t, z, []step{{0, 0, true, "{0 {0 0}}"}, {0, 0, true, "{0 {1 0}}"}, {0, 0, true, "{0 {2 0}}"}, {0, 0, true, "{0 {3 0}}"}})
	for _, at := range []int{0, 2, 3} {
		if err := z.Give(api.Place{B: api.Block{At: at}}); err != nil {
			t.Fatal(at, err)
		}
	}
	steps(t, z, []step{{0, 2, false, full}, {0, 1, false, "{0 {2 1}}"}, {0, 1, false, full}, {0, 0, false, low}})
}

func TestGreatMarks(t *testing.T) { // P31, P32: marks above all pages, as far as ints go
	for _, mark := range []int{9, 257, math.MaxInt} {
		c := zone.Config{Pages: []int{8}, Near: [][]int{{0}}, Marks: api.Marks{Min: mark, Low: mark, High: mark}}
		z := start(t, c)
		told(t, z, 0, 8, true, mark-8)
		steps(t, z, []step{{0, 0, false, low}, {0, 3, false, low}, {0, 4, false, full}, {0, 3, true, "{0 {0 3}}"}, {0, 0, false, full}})
		told(t, z, 0, 0, true, mark)
	}
}

func TestTakeBounds(t *testing.T) { // P31: node, order
	for n := 1; n <= 4; n++ {
		z := start(t, flat(n))
		for _, urgent := range []bool{false, true} {
			for _, node := range append([]int{-1, n, n + 1}, wild...) {
				steps(t, z, []step{{node, 0, urgent, bound}, {node, 6, urgent, bound}, {node, 7, urgent, bound}})
			}
			for _, k := range append([]int{-64, -1, 7, 8, 63, 64}, wild...) {
				steps(t, z, []step{{0, k, urgent, bound}, {n - 1, k, urgent, bound}})
			}
		}
	}
}

func TestGive(t *testing.T) { // P31: it is free again, on its own node
	z := start(t, flat(2))
	first := sight(t, z)
	steps(t, z, []step{{0, 2, false, "{0 {0 2}}"}, {1, 1, false, "{1 {0 1}}"}, {1, 2, false, "{1 {4 2}}"}})
	for _, p := range []api.Place{{Node: 1, B: api.Block{Order: 1}}, {B: api.Block{Order: 2}}, {Node: 1, B: api.Block{At: 4, Order: 2}}} {
		if err := z.Give(p); err != nil {
			t.Fatal(p, err)
		}
	}
	see(t, z, first)
}

func TestGiveErrors(t *testing.T) { // P31: ErrBound where there is no node, buddy's ErrNone where none is taken, just so
	z := start(t, flat(2))
	steps(t, z, []step{{0, 1, false, "{0 {0 1}}"}, {1, 2, false, "{1 {0 2}}"}})
	wrong := func(p api.Place, want error) {
		t.Helper()
		before := sight(t, z)
		if err := z.Give(p); err != want {
			t.Error(p, err)
		}
		see(t, z, before)
	}
	for _, node := range append([]int{-1, 2, 3}, wild...) {
		wrong(api.Place{Node: node, B: api.Block{Order: 1}}, api.ErrBound)
		wrong(api.Place{Node: node, B: api.Block{At: -1, Order: 99}}, api.ErrBound)
	}
	for _, x := range []api.Block{{At: 0}, {At: 1}, {Order: 2}, {At: 2, Order: 1}, {At: -1, Order: 1}, {Order: -1}, {Order: 7}, {At: 8}, {At: math.MaxInt, Order: math.MaxInt}, {At: math.MinInt, Order: math.MinInt}} {
		wrong(api.Place{B: x}, api.ErrNone)
	}
	wrong(api.Place{Node: 1, B: api.Block{Order: 1}}, api.ErrNone) // taken, but of node 0
	if err := z.Give(api.Place{B: api.Block{Order: 1}}); err != nil {
		t.Error(err)
	}
	wrong(api.Place{B: api.Block{Order: 1}}, api.ErrNone) // twice
}

func TestAsked(t *testing.T) { // P32: below Low, not at it; up to High, and none above it
	c := zone.Config{Pages: []int{8, 3}, Near: [][]int{{0, 1}, {1, 0}}, Marks: api.Marks{Min: 0, Low: 3, High: 5}}
	z := start(t, c)
	for _, s := range []struct {
		free int
		low  bool
		lack int
	}{{8, false, 0}, {7, false, 0}, {6, false, 0}, {5, false, 0}, {4, false, 1}, {3, false, 2}, {2, true, 3}, {1, true, 4}, {0, true, 5}} {
		told(t, z, 0, s.free, s.low, s.lack)
		told(t, z, 1, 3, false, 2) // the other one is not touched
		if s.free > 0 {
			if p, err := z.Take(0, 0, false); p.Node != 0 || err != nil {
				t.Fatal(s, p, err)
			}
		}
	}
	told(t, start(t, zone.Config{Pages: []int{1}, Near: [][]int{{0}}}), 0, 1, false, 0) // no marks
}

func TestAskedOfNoNode(t *testing.T) { // P32: ErrBound, with nothing
	for n := 1; n <= 4; n++ {
		c := flat(n)
		c.Marks = api.Marks{Min: 100, Low: 100, High: 100}
		z := start(t, c)
		for _, node := range append([]int{-1, n, n + 1}, wild...) {
			if k, err := z.Free(node); k != 0 || err != api.ErrBound {
				t.Error(n, node, k, err)
			}
			if low, err := z.Low(node); low || err != api.ErrBound {
				t.Error(n, node, low, err)
			}
			if k, err := z.Lack(node); k != 0 || err != api.ErrBound {
				t.Error(n, node, k, err)
			}
			if b, err := z.Node(node); b != nil || err != api.ErrBound {
				t.Error(n, node, b, err)
			}
		}
	}
}

func TestNodeIsACopy(t *testing.T) { // P32: neither sees what becomes of the other (P4)
	z := start(t, flat(2))
	steps(t, z, []step{{1, 1, false, "{1 {0 1}}"}})
	b, err := z.Node(1)
	if err != nil || fmt.Sprint(b.Free(), b.Taken()) != "[{2 1} {4 2}] [{0 1}]" {
		t.Fatal(b, err)
	}
	before := sight(t, z)
	if _, err := b.Take(2); err != nil {
		t.Error(err)
	}
	if err := b.Give(api.Block{Order: 1}); err != nil {
		t.Error(err)
	}
	see(t, z, before)
	steps(t, z, []step{{1, 0, false, "{1 {2 0}}"}})
	if got := fmt.Sprint(b.Free(), b.Taken()); got != "[{0 2}] [{4 2}]" {
		t.Error(got)
	}
}

// call is a Take, or where it gives a Give.
type call struct {
	gives       bool
	node, order int
	urgent      bool
	place       api.Place
}

// makeCall makes it of a zone and of the model, holds the answers against each other, and looks after Min (P33).
func makeCall(t *testing.T, z *zone.Zone, m model, c call) {
	t.Helper()
	if c.gives {
		if err, want := z.Give(c.place), m.give(c.place); err != want {
			t.Fatal(m.c, c, err, want)
		}
		return
	}
	p, err := z.Take(c.node, c.order, c.urgent)
	if q, want := m.take(c.node, c.order, c.urgent); p != q || err != want {
		t.Fatal(m.c, c, p, err, q, want)
	}
	if err == nil && !c.urgent {
		if n, e := z.Free(p.Node); n < m.c.Marks.Min || e != nil {
			t.Fatal(m.c, c, p, n, e)
		}
	}
}

// everyCall is all that may be asked of a zone of c, and some that may not.
func everyCall(c zone.Config) []call {
	var l []call
	for node := -1; node <= len(c.Pages); node++ {
		for k := -1; k <= 3; k++ {
			l = append(l, call{node: node, order: k}, call{node: node, order: k, urgent: true})
			for at := -1; at <= slices.Max(c.Pages); at++ {
				l = append(l, call{gives: true, place: api.Place{Node: node, B: api.Block{At: at, Order: k}}})
			}
		}
	}
	return l
}

func TestAllStates(t *testing.T) { // P31, P32, P33: each state that few pages can come to, and each call there
	near := [][]int{{0, 2, 1}, {4, 1, 4}, {1, 3, 0}}
	for _, c := range []zone.Config{
		{Pages: []int{4}, Near: [][]int{{0}}, Marks: api.Marks{Min: 1, Low: 2, High: 3}},
		{Pages: []int{3, 2}, Near: [][]int{{0, 1}, {1, 0}}, Marks: api.Marks{Min: 1, Low: 1, High: 2}},
		{Pages: []int{1, 4}, Near: [][]int{{0, 1}, {1, 0}}, Marks: api.Marks{Min: 2, Low: 2, High: 5}},
		{Pages: []int{1, 2, 2}, Near: near, Marks: api.Marks{Low: 1, High: 1}},
		{Pages: []int{2, 1, 2}, Near: near, Marks: api.Marks{Min: 1, Low: 2, High: 2}},
	} {
		calls := everyCall(c)
		seen := map[string]bool{}
		ways := [][]call{nil} // the calls that lead to a state: a zone has no copy
		for len(ways) > 0 {
			way := ways[0]
			ways = ways[1:]
			for _, last := range calls {
				z, m := start(t, c), newModel(t, c)
				for _, x := range way {
					makeCall(t, z, m, x)
				}
				makeCall(t, z, m, last)
				same(t, z, m)
				if key := fmt.Sprint(m.taken()); !seen[key] {
					seen[key] = true
					ways = append(ways, append(slices.Clone(way), last))
				}
			}
		}
		if len(seen) < 10 {
			t.Errorf("%v: %d states only", c, len(seen))
		}
	}
}

func TestWalk(t *testing.T) { // P31, P32, P33: long ways over many pages, and back to the beginning
	for i, c := range []zone.Config{
		{Pages: []int{256}, Near: [][]int{{0}}, Marks: api.Marks{Min: 20, Low: 40, High: 60}},
		{Pages: []int{64, 100}, Near: [][]int{{0, 1}, {1, 0}}, Marks: api.Marks{Min: 8, Low: 16, High: 32}},
		{Pages: []int{7, 200, 33}, Near: [][]int{{0, 2, 1}, {5, 0, 5}, {1, 1, 0}}, Marks: api.Marks{Min: 3, Low: 5, High: 10}},
		{Pages: []int{16, 31, 64, 1}, Near: [][]int{{0, 3, 3, 1}, {9, 1, 2, 2}, {1000, 1, 0, 1}, {7, 6, 5, 4}}, Marks: api.Marks{Min: 5, Low: 9, High: 9}},
		{Pages: []int{50, 50, 50, 50}, Near: flat(4).Near},
	} {
		z, m := start(t, c), newModel(t, c)
		first := sight(t, z)
		seed := uint32(i)
		next := func(n int) int {
			seed = seed*1664525 + 1013904223
			return int(seed>>8) % n
		}
		for range 800 {
			taken := m.taken()
			if next(5) < 3 || len(taken) == 0 {
				makeCall(t, z, m, call{node: next(len(c.Pages)), order: min(next(7), next(7)), urgent: next(4) == 0})
			} else {
				makeCall(t, z, m, call{gives: true, place: taken[next(len(taken))]})
			}
			same(t, z, m)
		}
		for l := m.taken(); len(l) > 0; l = m.taken() {
			makeCall(t, z, m, call{gives: true, place: l[next(len(l))]})
		}
		see(t, z, first)
	}
}

func TestSameAnswers(t *testing.T) { // P2: the same calls, the same answers
	tell := func() (s string) {
		z := start(t, flat(3))
		for i := range 60 {
			p, err := z.Take(i%3, i*i%3, i%7 == 0)
			s += fmt.Sprint(p, err)
			if i%3 == 0 && err == nil {
				s += fmt.Sprint(z.Give(p), sight(t, z))
			}
		}
		return s
	}
	first := tell()
	for range 20 {
		if got := tell(); got != first {
			t.Fatal(got, first)
		}
	}
}
