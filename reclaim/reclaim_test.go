package reclaim_test

import (
	"fmt"
	"math"
	"slices"
	"testing"

	"slabyard/api"
	"slabyard/magazine"
	"slabyard/pool"
	"slabyard/reclaim"
	"slabyard/slab"
	"slabyard/zone"
)

// wild are numbers far from all that is asked for.
var wild = []int{math.MinInt, math.MinInt + 1, -1 << 32, 1 << 32, 1<<32 + 1, math.MaxInt - 1, math.MaxInt}

// nodes are as many as pages, each as far from each other one; pages are asked back below low, up to high.
func nodes(least, low, high int, pages ...int) zone.Config {
	c := zone.Config{Pages: pages, Marks: api.Marks{Min: least, Low: low, High: high}}
	for i := range pages {
		far := slices.Repeat([]int{1}, len(pages))
		far[i] = 0
		c.Near = append(c.Near, far)
	}
	return c
}

// rig is a house with a test that asks it.
type rig struct {
	*testing.T
	h *reclaim.House
}

func build(t *testing.T, c zone.Config, workers int, sizes ...int) rig {
	t.Helper()
	h, err := reclaim.New(c, sizes, workers)
	if err != nil || h == nil {
		t.Fatal(c, sizes, workers, err)
	}
	return rig{t, h}
}

// page is the object that has this page of a node, where objects are as long: of 2, 4, 8 .. pages they are taken in this order.
func page(node, i int) api.Object { return api.Object{Node: node, At: 64 * i} }

// pages from the first of a node to the last.
func pages(node, first, last int) []api.Object {
	var l []api.Object
	for i := first; i <= last; i++ {
		l = append(l, page(node, i))
	}
	return l
}

func (r rig) depot(i int) *magazine.Depot {
	r.Helper()
	d, err := r.h.Depot(i)
	if err != nil || d == nil {
		r.Fatal(i, err)
	}
	return d
}

// take holds which object each answer is, in turn.
func (r rig) take(i, worker, node int, wants ...api.Object) {
	r.Helper()
	for k, want := range wants {
		if o, err := r.h.Take(i, worker, node); o != want || err != nil {
			r.Fatalf("take %d of %d by %d at %d: %v, %v, want %v", k, i, worker, node, o, err, want)
		}
		r.sound()
	}
}

func (r rig) give(i, worker int, l ...api.Object) {
	r.Helper()
	for _, o := range l {
		if err := r.h.Give(i, worker, o); err != nil {
			r.Fatal(i, worker, o, err)
		}
		r.sound()
	}
}

// release gives to the cache itself: the object lies in no magazine.
func (r rig) release(i int, l ...api.Object) {
	r.Helper()
	for _, o := range l {
		if err := r.depot(i).Cache().Give(o); err != nil {
			r.Fatal(i, o, err)
		}
		r.sound()
	}
}

// lose pages to somebody else.
func (r rig) lose(node, order int) api.Place {
	r.Helper()
	p, err := r.h.Zone().Take(node, order, true)
	if err != nil || p.Node != node {
		r.Fatal(node, order, p, err)
	}
	return p
}

func (r rig) reclaim(node, want int) {
	r.Helper()
	if n, err := r.h.Reclaim(node); n != want || err != nil {
		r.Fatalf("reclaim of %d: %d, %v, want %d", node, n, err, want)
	}
}

// free holds how many pages of each node are.
func (r rig) free(wants ...int) {
	r.Helper()
	for node, want := range wants {
		if n, err := r.h.Zone().Free(node); n != want || err != nil {
			r.Fatalf("free of %d: %d, %v, want %d", node, n, err, want)
		}
	}
}

func (r rig) held(i, workers, pile int) {
	r.Helper()
	if w, p := r.depot(i).Held(); w != workers || p != pile {
		r.Fatalf("held of %d: %d and %d, want %d and %d", i, w, p, workers, pile)
	}
}

// slabs holds on which pages those of a cache lie: node and page in turn.
func (r rig) slabs(i int, wants ...int) {
	r.Helper()
	var l []int
	for _, p := range r.depot(i).Cache().Slabs() {
		l = append(l, p.Node, p.B.At)
	}
	if !slices.Equal(l, wants) {
		r.Fatalf("slabs of %d: %v, want %v", i, l, wants)
	}
}

// on a node the slabs from the first page to the last, and so on, as slabs wants it.
func on(node int, firstLast ...int) []int {
	var l []int
	for k := 0; k < len(firstLast); k += 2 {
		for i := firstLast[k]; i <= firstLast[k+1]; i++ {
			l = append(l, node, i)
		}
	}
	return l
}

// sound holds that an audit finds nothing.
func (r rig) sound() {
	r.Helper()
	if err := r.h.Audit(); err != nil {
		r.Fatal(err, r.sight())
	}
}

// broken holds that an audit finds something.
func (r rig) broken() {
	r.Helper()
	if err := r.h.Audit(); err != api.ErrShape {
		r.Fatal(err, r.sight())
	}
}

// refused takes, and holds the error against what is wanted.
func (r rig) refused(i, worker, node int, want error) {
	r.Helper()
	if o, err := r.h.Take(i, worker, node); o != (api.Object{}) || err != want {
		r.Fatalf("take of %d by %d at %d: %v, %v, want %v", i, worker, node, o, err, want)
	}
}

// sight is all that can be told of a house without changing it.
func (r rig) sight() (s string) {
	r.Helper()
	for node := 0; ; node++ {
		b, err := r.h.Zone().Node(node)
		if err != nil {
			break
		}
		s += fmt.Sprint(b.Free(), b.Taken())
	}
	for i := 0; ; i++ {
		d, err := r.h.Depot(i)
		if err != nil {
			return s
		}
		workers, pile := d.Held()
		s += fmt.Sprint(workers, pile, d.Cache().Slabs(), d.Cache().Taken(), slices.DeleteFunc(d.Cache().Taken(), d.Cache().Out))
	}
}

// shut gives back all that is not free, and holds that all pages are then (P94).
func (r rig) shut(first string) {
	r.Helper()
	for i := 0; ; i++ {
		d, err := r.h.Depot(i)
		if err != nil {
			break
		}
		for worker := range d.Workers() {
			if _, err := d.Drain(worker); err != nil {
				r.Fatal(err)
			}
		}
		d.Empty()
		for node := 0; d.Cache().Has(node); node++ {
			if _, err := d.Cache().Shrink(node, api.MaxPages); err != nil {
				r.Fatal(err)
			}
		}
	}
	r.sound()
	if s := r.sight(); s != first {
		r.Fatal(s, first)
	}
}

func TestNewErrors(t *testing.T) { // P90: how many sizes, then the zone's errors, then the cache's and the depot's
	good := nodes(0, 1, 2, 4, 4)
	flat := zone.Config{Pages: []int{4, 4}, Near: [][]int{{0, 0}, {0, 0}}}
	huge := zone.Config{Pages: []int{257}, Near: [][]int{{0}}}
	marks := nodes(2, 1, 3, 4)
	for i, x := range []struct {
		c       zone.Config
		sizes   []int
		workers int
		want    error
	}{
		{good, nil, 1, api.ErrBound},
		{good, []int{}, 1, api.ErrBound},
		{good, slices.Repeat([]int{8}, 9), 1, api.ErrBound},
		{good, slices.Repeat([]int{8}, 100), 1, api.ErrBound},
		{flat, nil, 1, api.ErrBound},
		{flat, slices.Repeat([]int{8}, 9), 0, api.ErrBound},
		{flat, []int{8}, 1, api.ErrShape},
		{flat, []int{0}, 1, api.ErrShape},
		{flat, []int{65}, 0, api.ErrShape},
		{flat, []int{8}, 5, api.ErrShape},
		{zone.Config{}, []int{8}, 1, api.ErrBound},
		{huge, []int{8}, 1, api.ErrBound},
		{marks, []int{8}, 1, api.ErrBound},
		{zone.Config{Pages: []int{4}}, []int{8}, 1, api.ErrShape},
		{good, []int{0}, 1, api.ErrBound},
		{good, []int{65}, 1, api.ErrBound},
		{good, []int{8, 8, 8, 8, 8, 8, 8, 65}, 1, api.ErrBound},
		{good, []int{-1, 8}, 1, api.ErrBound},
		{good, []int{8}, 0, api.ErrBound},
		{good, []int{8}, 5, api.ErrBound},
		{good, []int{8, 9}, -1, api.ErrBound},
	} {
		if h, err := reclaim.New(x.c, x.sizes, x.workers); h != nil || err != x.want {
			t.Error(i, h, err, x.want)
		}
	}
	for _, n := range wild {
		_, e1 := reclaim.New(good, []int{n}, 1)
		_, e2 := reclaim.New(good, []int{1, n}, 1)
		_, e3 := reclaim.New(good, []int{1}, n)
		_, e4 := reclaim.New(nodes(0, 0, 0, n), []int{1}, 1)
		if e1 != api.ErrBound || e2 != api.ErrBound || e3 != api.ErrBound || e4 != api.ErrBound {
			t.Error(n, e1, e2, e3, e4)
		}
	}
}

func TestNew(t *testing.T) { // P90: a cache with a depot of each size, of one zone; all is empty
	sizes := []int{64, 1, 30, 8, 8, 33, 16, 40}
	for n := 1; n <= 8; n++ {
		workers := (n-1)%4 + 1
		r := build(t, nodes(1, 2, 3, 5, 7), workers, sizes[:n]...)
		r.free(5, 7)
		for i := range n {
			d := r.depot(i)
			if d.Workers() != workers || d.Cache().Size() != sizes[i] {
				t.Error(n, i, d.Workers(), d.Cache().Size())
			}
			r.held(i, 0, 0)
			r.slabs(i)
			if i > 0 && (d == r.depot(i-1) || d.Cache() == r.depot(i-1).Cache()) {
				t.Error(n, i)
			}
		}
		r.sound()
	}
}

func TestOwn(t *testing.T) { // P90, P4: the zone and the depots are the house's own, the same each time
	r := build(t, nodes(0, 0, 0, 4), 2, 64, 32)
	if r.h.Zone() == nil || r.h.Zone() != r.h.Zone() || r.depot(1) != r.depot(1) || r.depot(0) == r.depot(1) {
		t.Error("not its own")
	}
	r.take(0, 0, 0, page(0, 0))
	r.take(1, 1, 0, page(0, 1))
	r.free(2)
	r.slabs(0, 0, 0)
	r.slabs(1, 0, 1)
	if o, err := r.depot(1).Take(0, 0, false); o != (api.Object{At: 96}) || err != nil {
		t.Error(o, err)
	}
	if o, err := r.depot(0).Cache().Take(0, false); o != page(0, 2) || err != nil {
		t.Error(o, err)
	}
	r.give(1, 0, api.Object{At: 96})
	r.give(0, 0, page(0, 2))
	r.free(1)
}

func TestNoDepot(t *testing.T) { // P90, P92: ErrBound, and nothing else
	for n := 1; n <= 8; n++ {
		r := build(t, nodes(0, 1, 2, 4), 2, slices.Repeat([]int{16}, n)...)
		r.take(n-1, 0, 0, page(0, 0))
		before := r.sight()
		for _, i := range append([]int{-1, n, n + 1}, wild...) {
			d, e1 := r.h.Depot(i)
			o, e2 := r.h.Take(i, 0, 0)
			e3 := r.h.Give(i, 0, page(0, 0))
			if d != nil || o != (api.Object{}) || e1 != api.ErrBound || e2 != api.ErrBound || e3 != api.ErrBound {
				t.Error(n, i, d, o, e1, e2, e3)
			}
		}
		if s := r.sight(); s != before {
			t.Error(n, s, before)
		}
	}
}

func TestConfigIsNotKept(t *testing.T) { // P4: who changes it later changes nothing
	c := zone.Config{Pages: []int{1, 1, 2}, Near: [][]int{{0, 2, 1}, {1, 0, 2}, {2, 1, 0}}, Marks: api.Marks{High: 1}}
	sizes := []int{64, 32}
	h, err := reclaim.New(c, sizes, 2)
	if err != nil || !slices.Equal(c.Pages, []int{1, 1, 2}) || !slices.Equal(sizes, []int{64, 32}) {
		t.Fatal(err, c, sizes)
	}
	c.Pages[0], c.Near[0][1], c.Near[0][2], c.Marks.High, sizes[0] = 9, 1, 2, 0, 5
	c.Near[1] = nil
	r := rig{t, h}
	r.take(0, 0, 0, page(0, 0), page(2, 0), page(2, 1), page(1, 0))
	r.refused(0, 0, 0, api.ErrFull)
	r.give(0, 1, page(2, 1))
	r.take(0, 0, 0, page(2, 1))
	l := []int{8, 65}
	if _, err := reclaim.New(nodes(0, 0, 0, 4), l[:1], 1); err != nil || l[1] != 65 { // what lies behind the end is not read
		t.Error(err)
	}
}

func TestReclaimOfNoNode(t *testing.T) { // P91: ErrBound, and nothing is asked back
	r := build(t, nodes(0, 0, 4, 4, 4), 1, 64)
	r.take(0, 0, 0, page(0, 0), page(0, 1))
	r.give(0, 0, page(0, 0))
	r.release(0, page(0, 1))
	before := r.sight()
	for _, node := range append([]int{-1, 2, 3}, wild...) {
		if n, err := r.h.Reclaim(node); n != 0 || err != api.ErrBound || r.sight() != before {
			t.Error(node, n, err)
		}
	}
	r.reclaim(0, 2)
}

func TestReclaimWithoutLack(t *testing.T) { // P91: nothing is asked back, neither free slabs nor magazines
	for high := range 3 {
		r := build(t, nodes(0, 0, high, 16), 2, 64, 64)
		r.take(0, 0, 0, pages(0, 0, 9)...)
		r.take(1, 1, 0, pages(0, 10, 13)...)
		r.give(0, 0, pages(0, 0, 8)...)
		r.release(0, page(0, 9))
		r.give(1, 1, page(0, 10))
		r.release(1, page(0, 11))
		before := r.sight()
		r.free(2)
		r.reclaim(0, 0)
		if s := r.sight(); s != before {
			t.Error(high, s, before)
		}
	}
}

func TestReclaimByShrink(t *testing.T) { // P91: of each cache in order, the last slab first, as many as lack
	for high, wants := range [][3][]int{
		{{0, 1, 2, 3, 4, 5}, {6, 7, 8, 9, 10, 11}, {12, 13, 14, 15}},
		{{0, 1, 2, 4, 5}, {6, 7, 8, 9, 10, 11}, {12, 13, 14, 15}},
		{{0, 2, 4, 5}, {6, 7, 8, 9, 10, 11}, {12, 13, 14, 15}},
		{{0, 2, 4, 5}, {6, 7, 8, 10, 11}, {12, 13, 14, 15}},
		{{0, 2, 4, 5}, {6, 7, 10, 11}, {12, 13, 14, 15}},
		{{0, 2, 4, 5}, {7, 10, 11}, {12, 13, 14, 15}},
		{{0, 2, 4, 5}, {7, 10, 11}, {12, 13, 14}},
		{{0, 2, 4, 5}, {7, 10, 11}, {12, 13, 14}},
		{{0, 2, 4, 5}, {7, 10, 11}, {12, 13, 14}},
	} {
		r := build(t, nodes(0, 0, high, 16), 2, 64, 64, 64)
		r.take(0, 0, 0, pages(0, 0, 5)...)
		r.take(1, 0, 0, pages(0, 6, 11)...)
		r.take(2, 0, 0, pages(0, 12, 15)...)
		r.release(0, page(0, 1), page(0, 3))
		r.release(1, page(0, 9), page(0, 6), page(0, 8))
		r.release(2, page(0, 15))
		came := min(high, 6)
		r.reclaim(0, came)
		r.free(came)
		for i, l := range wants {
			var both []int
			for _, at := range l {
				both = append(both, 0, at)
			}
			r.slabs(i, both...)
		}
		r.sound()
		r.reclaim(0, 0)
	}
}

// high of the steps below: so many pages are to be free.
const high = 16

// stepped is a house where each step has something to ask back: of each of two depots, some in the pile, some in worker
// 0's magazines, some in worker 1's. 14 pages are free.
func stepped(t *testing.T) rig {
	t.Helper()
	r := build(t, nodes(0, 0, high, 64), 2, 64, 64)
	for i := range 2 {
		first := 25 * i
		r.take(i, 0, 0, pages(0, first, first+24)...)
		r.give(i, 0, pages(0, first, first+11)...)    // 4 of them on the pile
		r.give(i, 1, pages(0, first+12, first+14)...) // the rest is with somebody
	}
	r.free(14)
	r.held(0, 11, 4)
	r.held(1, 11, 4)
	return r
}

func TestReclaimSteps(t *testing.T) { // P91: the piles in order, then the workers of each depot in order, no further than is needed
	r := stepped(t)
	lack := func(more ...int) {
		t.Helper()
		for _, order := range more {
			r.lose(0, order)
		}
	}
	held := func(w0, p0, w1, p1 int) {
		t.Helper()
		r.held(0, w0, p0)
		r.held(1, w1, p1)
		r.free(high)
	}
	lack(0)
	r.reclaim(0, 3) // of depot 0's pile, one is left
	held(11, 0, 11, 4)
	lack(0)
	r.reclaim(0, 1) // it is shrunk ahead of all
	held(11, 0, 11, 4)
	lack(0, 0)
	r.reclaim(0, 2) // of depot 1's pile
	held(11, 0, 11, 0)
	lack(1, 0)
	r.reclaim(0, 3) // the other two, and of worker 0's in depot 0
	held(3, 0, 11, 0)
	lack(2, 1, 0)
	r.reclaim(0, 7) // the rest of those
	held(3, 0, 11, 0)
	lack(0)
	r.reclaim(0, 1) // of worker 1's
	held(0, 0, 11, 0)
	lack(1, 0)
	r.reclaim(0, 3) // the rest of those, and of worker 0's in depot 1
	held(0, 0, 3, 0)
	lack(2, 1)
	r.reclaim(0, 6)
	held(0, 0, 3, 0)
	lack(1, 0)
	r.reclaim(0, 3)
	held(0, 0, 0, 0)
	lack(2)
	r.reclaim(0, 1) // no more than there is
	r.free(high - 3)
	r.slabs(0, on(0, 15, 24)...)
	r.slabs(1, on(0, 40, 49)...)
}

func TestReclaimShrinksBehindEachStep(t *testing.T) { // P91: what a step loosened goes at once, the last slab first
	r := stepped(t)
	r.lose(0, 0)
	r.reclaim(0, 3) // of pages 4 to 7, which lay on the pile
	r.slabs(0, on(0, 0, 4, 8, 24)...)
	r.slabs(1, on(0, 25, 49)...)
	r.lose(0, 2)
	r.reclaim(0, 4) // one of depot 0, three of depot 1's pile
	r.slabs(0, on(0, 0, 3, 8, 24)...)
	r.slabs(1, on(0, 25, 29, 33, 49)...)
	r.lose(0, 1)
	r.lose(0, 0)
	r.reclaim(0, 3) // one of depot 1, two of those that depot 0's worker 0 had
	r.slabs(0, on(0, 0, 3, 8, 9, 12, 24)...)
	r.slabs(1, on(0, 25, 28, 33, 49)...)
}

func TestReclaimAll(t *testing.T) { // P91: all steps at once, by each number of depots and workers
	for depots := 1; depots <= 8; depots++ {
		for workers := 1; workers <= 4; workers++ {
			r := build(t, nodes(0, 0, 256, 256), workers, slices.Repeat([]int{64}, depots)...)
			first := r.sight()
			for i := range depots {
				l := pages(0, 30*i, 30*i+29)
				r.take(i, 0, 0, l...)
				for k, o := range l {
					r.give(i, k%workers, o)
				}
			}
			r.free(256 - 30*depots)
			r.reclaim(0, 30*depots)
			if s := r.sight(); s != first {
				t.Error(depots, workers, s)
			}
		}
	}
}

func TestReclaimOfANode(t *testing.T) { // P91: its slabs alone go; magazines are loosened, whatever node their objects are of
	r := build(t, nodes(0, 0, 3, 4, 4), 1, 64, 64)
	r.take(0, 0, 0, pages(0, 0, 1)...)
	r.take(0, 0, 1, pages(1, 0, 1)...)
	r.take(1, 0, 1, page(1, 2))
	r.release(0, page(1, 0))
	r.give(0, 0, page(1, 1), page(0, 0))
	r.give(1, 0, page(1, 2))
	r.free(2, 1)
	r.reclaim(0, 1)
	r.free(3, 1)
	r.slabs(0, 0, 1, 1, 0, 1, 1)
	r.slabs(1, 1, 2)
	r.held(0, 0, 0)
	r.held(1, 1, 0) // nothing lacked there
	r.reclaim(1, 2)
	r.free(3, 3)
	r.slabs(0, 0, 1)
	r.slabs(1, 1, 2)
	r.held(1, 1, 0)
}

func TestReclaimNothing(t *testing.T) { // P91: where no page comes all is loosened still
	r := build(t, nodes(0, 0, 4, 4), 2, 16, 32)
	r.take(0, 0, 0, api.Object{}, api.Object{At: 16}, api.Object{At: 32})
	r.take(1, 0, 0, api.Object{At: 64}, api.Object{At: 96})
	r.give(0, 1, api.Object{At: 16})
	r.give(1, 1, api.Object{At: 64})
	r.reclaim(0, 0)
	r.free(2)
	r.held(0, 0, 0)
	r.held(1, 0, 0)
	r.take(0, 0, 0, api.Object{At: 16}, api.Object{At: 48})
}

func TestReclaimCountsPages(t *testing.T) { // P91: how many came: not a slab whose page somebody else gave back
	r := build(t, nodes(0, 0, 4, 4), 1, 64)
	r.take(0, 0, 0, pages(0, 0, 2)...)
	r.release(0, pages(0, 0, 2)...)
	if err := r.h.Zone().Give(api.Place{B: api.Block{At: 2}}); err != nil {
		t.Fatal(err)
	}
	r.free(2)
	r.reclaim(0, 2)
	r.free(4)
	r.sound()
}

func TestTakeIsOfTheDepot(t *testing.T) { // P92: what is at hand, then the cache's, of this worker, at this node
	r := build(t, nodes(0, 4, 4, 4, 4), 2, 64, 32) // pages lack at once, but none is asked back
	r.take(0, 0, 0, pages(0, 0, 1)...)
	r.take(1, 1, 1, page(1, 0), api.Object{Node: 1, At: 32})
	r.take(0, 1, 1, page(1, 1))
	r.release(1, api.Object{Node: 1, At: 32})
	r.free(2, 2)
	if err := r.depot(0).Give(1, page(0, 1)); err != nil {
		t.Fatal(err)
	}
	r.take(0, 0, 0, page(0, 2)) // worker 1's is not at hand
	r.take(0, 1, 1, page(0, 1))
	r.take(1, 0, 0, page(0, 3), api.Object{At: 224})
	r.free(0, 2)
	r.take(1, 0, 1, api.Object{Node: 1, At: 32})
	r.take(0, 0, 0, page(1, 2)) // the next node: there is no need to ask back
	r.free(0, 1)
}

func TestTakeAtHand(t *testing.T) { // P92: a depot that has something asks nobody, whatever lacks
	r := build(t, nodes(2, 3, 4, 2), 1, 64, 32)
	if _, err := r.depot(1).Take(0, 0, true); err != nil {
		t.Fatal(err)
	}
	o, err := r.depot(0).Take(0, 0, true)
	if err != nil || r.depot(0).Give(0, o) != nil {
		t.Fatal(o, err)
	}
	r.free(0)
	r.take(1, 0, 0, api.Object{At: 32})
	r.held(0, 1, 0)
	r.take(0, 0, 0, o)
	r.held(0, 0, 0)
	r.free(0)
	r.refused(0, 0, 0, api.ErrFull)
}

func TestTakeWithLow(t *testing.T) { // P92: below Min: each node is asked first, then who takes is urgent
	r := build(t, nodes(1, 1, 2, 4, 4), 1, 64, 64)
	r.take(0, 0, 0, pages(0, 0, 2)...)
	r.take(0, 0, 1, pages(1, 0, 1)...)
	r.take(1, 0, 1, page(1, 2))
	r.free(1, 1)
	r.give(0, 0, page(1, 0))
	r.release(0, page(0, 1))
	r.free(1, 1)
	r.take(1, 0, 0, page(0, 1)) // of node 0 came page 1, of node 1 page 0
	r.free(1, 2)
	r.held(0, 0, 0)
	r.take(1, 0, 0, page(1, 0)) // not urgent: of node 1 one more is to be had
	r.free(1, 1)
	r.take(1, 0, 0, page(0, 3)) // nothing comes, and the last page goes
	r.free(0, 1)
	r.take(1, 0, 0, page(1, 3))
	r.free(0, 0)
	r.refused(1, 0, 0, api.ErrFull)
	r.refused(0, 0, 1, api.ErrFull)
}

func TestTakeWithLowAndNoLack(t *testing.T) { // P92: where nothing lacks nothing is asked back, and who is urgent gets a page
	r := build(t, nodes(1, 1, 1, 2), 1, 64, 64)
	r.take(0, 0, 0, page(0, 0))
	r.give(0, 0, page(0, 0))
	r.take(1, 0, 0, page(0, 1))
	r.held(0, 1, 0)
	r.take(1, 0, 0, page(0, 0)) // now one lacks: depot 0's magazine is drained
	r.held(0, 0, 0)
	r.slabs(0)
}

func TestTakeWithFull(t *testing.T) { // P92: where no page is free those of others come back
	r := build(t, nodes(0, 0, 1, 4), 2, 64, 64)
	r.take(0, 0, 0, pages(0, 0, 3)...)
	r.give(0, 1, pages(0, 1, 2)...)
	r.take(1, 0, 0, page(0, 2)) // both were drained, the last one went
	r.held(0, 0, 0)
	r.slabs(0, 0, 0, 0, 1, 0, 3)
	r.take(1, 0, 0, page(0, 1))
	r.refused(1, 0, 0, api.ErrFull)
	r.give(0, 0, page(0, 0))
	r.refused(1, 0, 1, api.ErrBound)
	r.held(0, 1, 0)
	r.take(0, 1, 0, page(0, 0)) // which worker 0 of the same depot had in a magazine
	r.held(0, 0, 0)
}

func TestTakeOfOwnSlabs(t *testing.T) { // P92: what was drained is free in the cache itself, though no page came
	r := build(t, nodes(0, 0, 1, 1), 2, 16)
	for at := 0; at < 64; at += 16 {
		r.take(0, 0, 0, api.Object{At: at})
	}
	r.give(0, 0, api.Object{At: 32}, api.Object{At: 16})
	r.take(0, 1, 0, api.Object{At: 16}, api.Object{At: 32})
	r.refused(0, 1, 0, api.ErrFull)
}

func TestTakeWithoutMarks(t *testing.T) { // P92: where High is 0 nothing ever lacks: others' magazines stay
	r := build(t, nodes(0, 0, 0, 2), 2, 64, 64)
	r.take(0, 0, 0, pages(0, 0, 1)...)
	r.give(0, 0, pages(0, 0, 1)...)
	before := r.sight()
	r.refused(0, 1, 0, api.ErrFull)
	r.refused(1, 0, 0, api.ErrFull)
	if s := r.sight(); s != before {
		t.Error(s, before)
	}
}

// crowded is a house of two nodes, both full: of depot 0 pages of both are on the pile, of cache 1 one is free on node 1.
func crowded(t *testing.T) rig {
	t.Helper()
	r := build(t, nodes(0, 0, 1, 8, 8), 1, 64, 64, 64)
	r.take(0, 0, 0, pages(0, 0, 6)...)
	r.take(0, 0, 1, pages(1, 0, 5)...)
	r.take(1, 0, 0, page(0, 7))
	r.take(1, 0, 1, pages(1, 6, 7)...)
	r.give(0, 0, pages(0, 2, 5)...)
	r.give(0, 0, page(0, 0), page(0, 1), page(1, 0), page(1, 1), page(0, 6))
	r.release(1, page(1, 7))
	r.free(0, 0)
	r.held(0, 5, 4)
	return r
}

func TestTakeAsksNodesInOrder(t *testing.T) { // P92: the nearest one first: what it loosens shows at the next one
	r := crowded(t)
	r.take(2, 0, 1, page(1, 7)) // of node 1 the free slab was enough; of node 0 the pile was emptied
	r.free(1, 0)
	r.held(0, 5, 0)
	r.slabs(0, append(on(0, 0, 0, 2, 6), on(1, 0, 5)...)...)
	r.slabs(1, 0, 7, 1, 6)
}

func TestTakeAsksEachNode(t *testing.T) { // P92: also where the first one has enough
	r := crowded(t)
	r.take(2, 0, 0, page(0, 1)) // of node 0 the pile was emptied; then of node 1 cache 0's slab was there first
	r.free(0, 1)
	r.held(0, 5, 0)
	r.slabs(0, append(on(0, 0, 0, 2, 6), on(1, 0, 0, 2, 5)...)...)
	r.slabs(1, 0, 7, 1, 6, 1, 7)
}

func TestTakeOfNoWorker(t *testing.T) { // P92: ErrBound, whatever is at hand or lacks; nothing is asked back
	for workers := 1; workers <= 4; workers++ {
		r := build(t, nodes(1, 2, 4, 4), workers, 64, 32)
		r.take(0, 0, 0, pages(0, 0, 2)...)
		r.free(1)
		r.release(0, page(0, 1))
		if err := r.depot(0).Give(0, page(0, 0)); err != nil {
			t.Fatal(err)
		}
		before := r.sight()
		for _, worker := range append([]int{-1, workers, workers + 1}, wild...) {
			for i := range 2 {
				for node := -1; node <= 1; node++ {
					r.refused(i, worker, node, api.ErrBound)
				}
			}
		}
		if s := r.sight(); s != before {
			t.Error(workers, s, before)
		}
	}
}

func TestTakeOfNoNode(t *testing.T) { // P92: the depot's ErrBound, when it asks its cache; nothing is asked back
	r := build(t, nodes(1, 2, 4, 4, 4), 1, 64, 32)
	r.take(0, 0, 0, pages(0, 0, 2)...)
	r.take(0, 0, 1, pages(1, 0, 2)...)
	r.release(0, page(0, 1))
	if err := r.depot(0).Give(0, page(0, 0)); err != nil {
		t.Fatal(err)
	}
	before := r.sight()
	for _, node := range append([]int{-1, 2, 3}, wild...) {
		r.refused(1, 0, node, api.ErrBound)
	}
	if s := r.sight(); s != before {
		t.Error(s, before)
	}
	r.take(0, 0, 2, page(0, 0)) // an object at hand is of any node
	r.refused(0, 0, 2, api.ErrBound)
}

func TestTakeInVain(t *testing.T) { // P92: ErrFull behind all: what was asked back on the way stays so
	r := build(t, nodes(0, 1, 1, 1), 2, 16, 64)
	r.take(0, 0, 0, api.Object{}, api.Object{At: 16}, api.Object{At: 32})
	if err := r.depot(0).Give(1, api.Object{At: 16}); err != nil {
		t.Fatal(err)
	}
	r.refused(1, 0, 0, api.ErrFull)
	r.held(0, 0, 0)
	r.slabs(0, 0, 0)
	r.slabs(1)
	r.sound()
	r.take(0, 1, 0, api.Object{At: 16})
}

func TestGive(t *testing.T) { // P92: into this worker's magazine of this depot; nothing is asked back where it is not Low
	r := build(t, nodes(0, 2, 8, 8), 2, 64, 64)
	r.take(0, 0, 0, pages(0, 0, 4)...)
	r.take(1, 0, 0, page(0, 5))
	r.give(0, 1, page(0, 0), page(0, 1))
	r.give(0, 0, page(0, 2))
	r.release(0, page(0, 3))
	r.give(1, 1, page(0, 5))
	r.held(0, 3, 0)
	r.held(1, 1, 0)
	r.free(2) // up to High 6 lack, but it is not below Low
	r.slabs(0, on(0, 0, 4)...)
	r.slabs(1, 0, 5)
	r.take(0, 1, 0, page(0, 1), page(0, 0))
	r.take(0, 0, 0, page(0, 2), page(0, 3))
}

func TestGiveWhereLow(t *testing.T) { // P92: behind it pages are asked back, up to High, also the one that was given
	r := build(t, nodes(0, 1, 2, 4), 2, 64, 64)
	r.take(0, 0, 0, pages(0, 0, 2)...)
	r.take(1, 0, 0, page(0, 3))
	r.free(0)
	r.give(1, 1, page(0, 3)) // one came, and no more is to be had
	r.free(1)
	r.held(1, 0, 0)
	r.slabs(1)
	r.give(0, 1, page(0, 1)) // it is not Low any more
	r.free(1)
	r.held(0, 1, 0)
	if o, err := r.depot(1).Take(0, 0, true); o != page(0, 3) || err != nil {
		t.Fatal(o, err)
	}
	r.free(0)
	r.give(0, 0, page(0, 0)) // both that lay in magazines came
	r.free(2)
	r.held(0, 0, 0)
	r.slabs(0, 0, 2)
	r.give(0, 0, page(0, 2))
	r.held(0, 1, 0)
}

func TestGiveOfANode(t *testing.T) { // P92: it is the object's node that counts, not another one, nor the nearest one
	r := build(t, nodes(0, 1, 1, 2, 2), 1, 64)
	r.take(0, 0, 0, pages(0, 0, 1)...)
	r.take(0, 0, 1, page(1, 0))
	r.free(0, 1)
	r.give(0, 0, page(1, 0))
	r.free(0, 1) // node 0 is Low still
	r.held(0, 1, 0)
	r.give(0, 0, page(0, 0))
	r.free(1, 1) // of node 0 alone
	r.held(0, 0, 0)
	r.slabs(0, 0, 1, 1, 0)
	r.take(0, 0, 1, page(1, 0))
	r.take(0, 0, 1, page(1, 1))
	r.release(0, page(1, 0))
	r.give(0, 0, page(0, 1))
	r.free(1, 0)
	r.give(0, 0, page(1, 1))
	r.free(1, 1) // the slab that was free already was enough
	r.slabs(0, 0, 1, 1, 1)
	r.held(0, 2, 0)
}

func TestGiveErrors(t *testing.T) { // P92: ErrBound ahead of ErrStale; nothing is changed, also where a node is Low
	r := build(t, nodes(0, 2, 2, 2), 2, 30, 30)
	for _, at := range []int{0, 30, 64} {
		r.take(0, 0, 0, api.Object{At: at})
	}
	for _, at := range []int{30, 64} {
		if err := r.depot(0).Give(1, api.Object{At: at}); err != nil {
			t.Fatal(err)
		}
	}
	before := r.sight()
	for _, worker := range append([]int{-1, 2}, wild...) {
		for i := range 2 {
			for at := range 128 {
				if err := r.h.Give(i, worker, api.Object{At: at}); err != api.ErrBound {
					t.Fatal(i, worker, at, err)
				}
			}
		}
	}
	stale := func(i int, o api.Object) {
		t.Helper()
		for worker := range 2 {
			if err := r.h.Give(i, worker, o); err != api.ErrStale {
				t.Fatal(i, worker, o, err)
			}
		}
	}
	for at := -64; at <= 192; at++ {
		stale(1, api.Object{At: at}) // of the other depot
		stale(0, api.Object{Node: 1, At: at})
		if at != 0 {
			stale(0, api.Object{At: at})
		}
	}
	for _, n := range wild {
		stale(0, api.Object{At: n})
		stale(0, api.Object{Node: n})
		stale(1, api.Object{Node: n, At: n})
	}
	if s := r.sight(); s != before {
		t.Error(s, before)
	}
	r.give(0, 0, api.Object{})
	r.free(2)
	stale(0, api.Object{})
}

func TestAuditOfPages(t *testing.T) { // P93: a page that somebody else has is neither free nor a slab's, wherever it is
	for node, all := range []int{6, 1, 16} {
		for order := 0; 1<<order <= all && order < 5; order++ {
			r := build(t, nodes(0, 1, 2, 6, 1, 16), 1, 64, 8)
			r.take(0, 0, 2, pages(2, 0, 1)...)
			r.take(1, 0, 0, page(0, 4))
			b, err := r.h.Zone().Node(node)
			if err != nil || !slices.ContainsFunc(b.Free(), func(x api.Block) bool { return x.Order >= order }) {
				continue
			}
			p := r.lose(node, order)
			for range 3 { // an audit mends nothing
				r.broken()
			}
			if _, err := r.h.Take(1, 0, 0); err != nil {
				t.Fatal(err)
			}
			r.broken()
			if err := r.h.Zone().Give(p); err != nil {
				t.Fatal(err)
			}
			r.sound()
		}
	}
}

func TestAuditOfEachPage(t *testing.T) { // P93: by each page of each node that is lost
	r := build(t, nodes(0, 0, 0, 256, 1, 3), 1, 64)
	for node, all := range []int{256, 1, 3} {
		l := []api.Place{}
		for range all {
			l = append(l, r.lose(node, 0))
		}
		for k, p := range l {
			if err := r.h.Zone().Give(p); err != nil {
				t.Fatal(err)
			}
			if k < all-1 {
				r.broken()
			}
		}
		r.sound()
	}
}

func TestAuditOfOtherCaches(t *testing.T) { // P93: who makes a cache of the zone takes of it
	r := build(t, nodes(0, 0, 0, 4), 1, 64)
	c, err := slab.New(r.h.Zone(), 64)
	if err != nil {
		t.Fatal(err)
	}
	r.take(0, 0, 0, page(0, 0))
	o, err := c.Take(0, false)
	if err != nil {
		t.Fatal(err)
	}
	r.broken()
	if err := c.Give(o); err != nil {
		t.Fatal(err)
	}
	r.broken()
	if n, err := c.Shrink(0, 1); n != 1 || err != nil {
		t.Fatal(n, err)
	}
	r.sound()
}

func TestAuditOfSlabsPages(t *testing.T) { // P93: a slab's page that somebody gave back is free, and a slab's; or of two
	r := build(t, nodes(0, 0, 0, 4), 1, 64, 32)
	r.take(0, 0, 0, pages(0, 0, 1)...)
	if err := r.h.Zone().Give(api.Place{B: api.Block{At: 1}}); err != nil {
		t.Fatal(err)
	}
	r.broken()
	if o, err := r.h.Take(1, 0, 0); o != page(0, 1) || err != nil {
		t.Fatal(o, err)
	}
	r.broken()
}

func TestAuditOfOthersAbove(t *testing.T) { // P93: others may take of the house's depots and caches, and have depots of their own
	r := build(t, nodes(0, 1, 2, 4, 4), 2, 16, 64)
	own, err := magazine.New(r.depot(0).Cache(), 3)
	if err != nil {
		t.Fatal(err)
	}
	p, err := pool.New(r.depot(0), 1, 3)
	if err != nil {
		t.Fatal(err)
	}
	r.sound()
	for i := range 6 {
		o, err := own.Take(i%3, 0, true)
		if err != nil {
			t.Fatal(err)
		}
		r.sound()
		if err := own.Give(i%2, o); err != nil { // it lies in a magazine that is not the house's
			t.Fatal(err)
		}
		r.sound()
	}
	a, e1 := p.Take(0, 0)
	b, e2 := r.depot(0).Take(0, 0, true)
	c, e3 := r.depot(1).Cache().Take(1, true)
	if e1 != nil || e2 != nil || e3 != nil {
		t.Fatal(e1, e2, e3)
	}
	r.sound()
	r.give(0, 0, b)
	for i, err := range []error{r.depot(0).Cache().Give(b), p.Give(1, a), p.Close(), own.Give(2, b), r.depot(1).Give(0, c), r.depot(1).Cache().Give(c)} {
		if want := map[bool]error{true: api.ErrStale}[i == 3]; err != want {
			t.Fatal(i, err)
		}
		r.sound()
	}
}

func TestAuditOfObjects(t *testing.T) { // P93: an object of two magazines, to which only somebody comes who copies a depot
	r := build(t, nodes(0, 0, 0, 1), 3, 4)
	var l []api.Object
	for at := 0; at < 64; at += 4 {
		l = append(l, api.Object{At: at})
	}
	r.take(0, 0, 0, l...)
	r.give(0, 0, l[:12]...)
	r.held(0, 8, 4)
	other := *r.depot(0)
	if err := other.Give(0, l[12]); err != nil { // its pile grows, the depot's own one does not
		t.Fatal(err)
	}
	if o, err := other.Take(1, 0, false); o != l[11] || err != nil {
		t.Fatal(o, err)
	}
	r.sound()
	if o, err := other.Take(2, 0, false); o != l[7] || err != nil {
		t.Fatal(o, err)
	}
	r.broken() // worker 2 has the magazine that stands in the depot's pile
}

func TestAllIsFree(t *testing.T) { // P94: given back, drained, emptied and shrunk
	for workers := 1; workers <= 4; workers++ {
		for depots := 1; depots <= 8; depots++ {
			r := build(t, nodes(workers-1, 3*depots, 4*depots, 3*depots, 5, 2*depots), workers, []int{16, 40, 64, 1, 33, 8, 30, 21}[:depots]...)
			first := r.sight()
			var taken []api.Object
			var from []int
			for k := range 40 * depots {
				if o, err := r.h.Take(k%depots, k%workers, k%3); err == nil {
					taken, from = append(taken, o), append(from, k%depots)
				} else if err != api.ErrFull {
					t.Fatal(err)
				}
			}
			for k, o := range taken {
				r.give(from[k], k*7%workers, o)
			}
			r.shut(first)
		}
	}
}

func TestSameAnswers(t *testing.T) { // P2: the same calls, the same answers, of each of two that stand side by side
	tell := func() func() string {
		r := build(t, nodes(1, 2, 4, 3, 4, 2), 3, 16, 40, 64)
		k := 0
		return func() string {
			k++
			o, err := r.h.Take(k%3, k%2, k%4%3)
			s := fmt.Sprint(o, err)
			if taken := r.depot(k % 3).Cache().Taken(); k%4 > 0 && len(taken) > 0 {
				s += fmt.Sprint(r.h.Give(k%3, k%2, taken[k*7%len(taken)]))
			}
			if k%5 == 0 {
				n, err := r.h.Reclaim(k % 3)
				s += fmt.Sprint(n, err)
			}
			return s + fmt.Sprint(r.h.Audit()) + r.sight()
		}
	}
	a, b := tell(), tell()
	for range 300 {
		if x, y := a(), b(); x != y {
			t.Fatal(x, y)
		}
	}
}
