package magazine_test

import (
	"fmt"
	"math"
	"slices"
	"testing"

	"slabyard/api"
	"slabyard/magazine"
	"slabyard/slab"
	"slabyard/zone"
)

// wild are numbers far from all that is asked for.
var wild = []int{math.MinInt, math.MinInt + 1, -1 << 32, 1 << 32, 1<<32 + 1, math.MaxInt - 1, math.MaxInt}

// nodes are as many as pages, each as far from each other one.
func nodes(least int, pages ...int) zone.Config {
	c := zone.Config{Pages: pages, Marks: api.Marks{Min: least, Low: least, High: least}}
	for i := range pages {
		far := slices.Repeat([]int{1}, len(pages))
		far[i] = 0
		c.Near = append(c.Near, far)
	}
	return c
}

// cache over a zone of its own.
func cache(t *testing.T, c zone.Config, size int) *slab.Cache {
	t.Helper()
	z, err := zone.New(c)
	if err != nil {
		t.Fatal(c, err)
	}
	l, err := slab.New(z, size)
	if err != nil {
		t.Fatal(size, err)
	}
	return l
}

func depot(t *testing.T, c *slab.Cache, workers int) *magazine.Depot {
	t.Helper()
	d, err := magazine.New(c, workers)
	if err != nil || d == nil {
		t.Fatal(workers, err)
	}
	return d
}

// start makes a depot over one page of 64 objects: object i begins at byte i.
func start(t *testing.T, workers int) *magazine.Depot {
	t.Helper()
	return depot(t, cache(t, nodes(0, 1), 1), workers)
}

// sight is all that can be told of a depot and of its cache without changing them.
func sight(d *magazine.Depot) string {
	workers, pile := d.Held()
	taken, room := d.Cache().Count()
	return fmt.Sprint(workers, pile, taken, room, d.Cache().Slabs(), d.Cache().Taken())
}

// take holds where each answer begins, at node 0, against a number, in turn.
func take(t *testing.T, d *magazine.Depot, worker int, wants ...int) {
	t.Helper()
	for i, want := range wants {
		if o, err := d.Take(worker, 0, false); o != (api.Object{At: want}) || err != nil {
			t.Fatalf("take %d by %d: %v, %v, want %d", i, worker, o, err, want)
		}
	}
}

// some takes so many objects of node 0, that are new: they begin at 0, 1, ..
func some(t *testing.T, d *magazine.Depot, n int) {
	t.Helper()
	for at := range n {
		take(t, d, 0, at)
	}
}

// give gives the objects of node 0 that begin there.
func give(t *testing.T, d *magazine.Depot, worker int, ats ...int) {
	t.Helper()
	for _, at := range ats {
		if err := d.Give(worker, api.Object{At: at}); err != nil {
			t.Fatal(worker, at, err)
		}
	}
}

// from lists numbers that rise.
func from(first, last int) []int {
	var l []int
	for i := first; i <= last; i++ {
		l = append(l, i)
	}
	return l
}

func holds(t *testing.T, d *magazine.Depot, workers, pile int) {
	t.Helper()
	if w, p := d.Held(); w != workers || p != pile {
		t.Fatalf("held %d and %d, want %d and %d", w, p, workers, pile)
	}
}

func drain(t *testing.T, d *magazine.Depot, worker, want int) {
	t.Helper()
	if n, err := d.Drain(worker); n != want || err != nil {
		t.Fatalf("drain %d: %d, %v, want %d", worker, n, err, want)
	}
}

func empty(t *testing.T, d *magazine.Depot, want int) {
	t.Helper()
	if n := d.Empty(); n != want {
		t.Fatalf("empty: %d, want %d", n, want)
	}
}

func TestNewErrors(t *testing.T) { // P50: ErrShape ahead of ErrBound
	c := cache(t, nodes(0, 1), 8)
	for _, n := range append([]int{-5, -1, 0, 5, 6, 16}, wild...) {
		if d, err := magazine.New(c, n); d != nil || err != api.ErrBound {
			t.Error(n, d, err)
		}
	}
	for n := -2; n <= 6; n++ {
		if d, err := magazine.New(nil, n); d != nil || err != api.ErrShape {
			t.Error(n, d, err)
		}
	}
}

func TestNewHasNothing(t *testing.T) { // P50, P52: nothing is taken of the cache ahead of the first object
	for n := 1; n <= 4; n++ {
		c := cache(t, nodes(0, 2), 8)
		d := depot(t, c, n)
		if d.Cache() != c || d.Workers() != n || sight(d) != "0 0 0 0 [] []" {
			t.Error(n, d.Workers(), sight(d))
		}
		for worker := range n {
			drain(t, d, worker, 0)
		}
		empty(t, d, 0)
		if sight(d) != "0 0 0 0 [] []" {
			t.Error(n, sight(d))
		}
	}
}

func TestTakeOfTheCache(t *testing.T) { // P51: with nothing at hand it is the cache's Take, its node, its urgency, its errors
	d := depot(t, cache(t, nodes(1, 2, 1), 32), 2)
	for i, x := range []struct {
		node   int
		urgent bool
		want   string
	}{
		{0, false, "{0 0} <nil>"}, {1, true, "{1 0} <nil>"}, {0, false, "{0 32} <nil>"}, {0, false, "{0 0} slabyard: low"},
		{1, false, "{1 32} <nil>"}, {1, false, "{0 0} slabyard: low"}, {1, true, "{0 64} <nil>"}, {0, false, "{0 96} <nil>"},
		{0, false, "{0 0} slabyard: full"}, {0, true, "{0 0} slabyard: full"}, {1, true, "{0 0} slabyard: full"},
	} {
		before := sight(d)
		o, err := d.Take(i%2, x.node, x.urgent)
		if got := fmt.Sprint(o, err); got != x.want || err != nil && sight(d) != before {
			t.Errorf("%d: %s, want %s", i, got, x.want)
		}
	}
	holds(t, d, 0, 0)
}

func TestTakeOfTheLoadedOne(t *testing.T) { // P51: what came last, ahead of all; the cache is not asked
	d := start(t, 2)
	some(t, d, 4)
	give(t, d, 0, 2, 0, 3, 1)
	before := fmt.Sprint(d.Cache().Taken())
	holds(t, d, 4, 0)
	take(t, d, 0, 1, 3)
	give(t, d, 0, 1)
	take(t, d, 0, 1, 0, 2)
	if got := fmt.Sprint(d.Cache().Taken()); got != before {
		t.Error(got, before)
	}
	take(t, d, 0, 4)
}

func TestTakeOfOwnMagazinesOnly(t *testing.T) { // P51: what another worker's magazines have is its own
	d := start(t, 4)
	some(t, d, 8)
	for worker := range 4 {
		give(t, d, worker, worker, worker+4)
	}
	holds(t, d, 8, 0)
	for worker := range 4 {
		take(t, d, worker, worker+4, worker, worker+8)
	}
}

func TestMagazinesChangePlaces(t *testing.T) { // P51: each one's fill is 4, and only the loaded one is at hand
	d := start(t, 1)
	some(t, d, 12)
	give(t, d, 0, 0, 1, 2, 3, 4) // loaded: 4; the other one: 0 to 3
	holds(t, d, 5, 0)
	take(t, d, 0, 4, 3) // now 0 to 2; the other one is empty
	give(t, d, 0, 4, 5) // the loaded one is full: 5 is alone
	holds(t, d, 5, 0)
	give(t, d, 0, 6, 7, 8)
	holds(t, d, 8, 0)
	take(t, d, 0, 8, 7, 6, 5, 4, 2, 1, 0, 12)
	holds(t, d, 0, 0)
	give(t, d, 0, 9, 10, 11, 12)
	take(t, d, 0, 12, 11, 10, 9, 13)
}

func TestPile(t *testing.T) { // P51: the loaded one goes on top, the other one stays; the top comes back to whom asks
	d := start(t, 3)
	some(t, d, 40)
	give(t, d, 0, from(0, 8)...) // the other one: 0 to 3; the pile: 4 to 7
	holds(t, d, 5, 4)
	give(t, d, 0, from(9, 11)...)
	holds(t, d, 8, 4)
	give(t, d, 0, 12) // the pile: 4 to 7, 8 to 11
	holds(t, d, 5, 8)
	give(t, d, 1, from(13, 21)...) // the other one: 13 to 16; the pile: 4 to 7, 8 to 11, 17 to 20
	holds(t, d, 10, 12)
	take(t, d, 2, 20)
	holds(t, d, 13, 8)
	take(t, d, 0, 12, 3, 2, 1, 0, 11) // own ones ahead of the pile
	holds(t, d, 11, 4)
	take(t, d, 1, 21, 16, 15, 14, 13, 7)
	holds(t, d, 9, 0)
	take(t, d, 2, 19, 18, 17, 40)
	take(t, d, 0, 10, 9, 8, 41)
	take(t, d, 1, 6, 5, 4, 42)
	holds(t, d, 0, 0)
}

func TestPileIsOfFullOnes(t *testing.T) { // P51: a magazine that came off the pile is one like any other
	d := start(t, 2)
	some(t, d, 30)
	give(t, d, 0, from(0, 8)...)
	take(t, d, 1, 7) // loaded: 4 to 6; the other one is empty
	give(t, d, 1, 9, 10)
	holds(t, d, 10, 0)
	give(t, d, 1, 11, 12, 13, 14) // the other one: 4, 5, 6, 9; the pile: 10 to 13
	holds(t, d, 10, 4)
	take(t, d, 1, 14, 9, 6, 5, 4, 13, 12, 11, 10, 30)
	holds(t, d, 5, 0)
	give(t, d, 1, from(20, 29)...)
	take(t, d, 0, 8, 3, 2, 1, 0, 27)
}

func TestTakeOfNoWorker(t *testing.T) { // P51: ErrBound ahead of the cache's errors, whatever is at hand
	for n := 1; n <= 4; n++ {
		d := start(t, n)
		wrong := func() {
			t.Helper()
			before := sight(d)
			for _, worker := range append([]int{-1, n, n + 1}, wild...) {
				for node := -1; node <= 1; node++ {
					if o, err := d.Take(worker, node, true); o != (api.Object{}) || err != api.ErrBound || sight(d) != before {
						t.Error(n, worker, node, o, err)
					}
				}
			}
		}
		wrong()
		some(t, d, 9)
		give(t, d, n-1, from(0, 8)...)
		wrong()
	}
}

func TestTakeOfNoNode(t *testing.T) { // P51: the cache's ErrBound, when it is asked; an object at hand is of any node
	d := depot(t, cache(t, nodes(0, 1, 1), 8), 2)
	o, err := d.Take(0, 1, false)
	if o != (api.Object{Node: 1}) || err != nil {
		t.Fatal(o, err)
	}
	if err := d.Give(0, o); err != nil {
		t.Fatal(err)
	}
	before := sight(d)
	for _, node := range append([]int{-1, 2, 3}, wild...) {
		if o, err := d.Take(1, node, true); o != (api.Object{}) || err != api.ErrBound || sight(d) != before {
			t.Error(node, o, err)
		}
	}
	for _, node := range append([]int{-1, 0, 1, 2}, wild...) {
		if x, err := d.Take(0, node, false); x != o || err != nil {
			t.Error(node, x, err)
		}
		if err := d.Give(0, o); err != nil {
			t.Error(node, err)
		}
	}
}

func TestGiveOfNoWorker(t *testing.T) { // P51: ErrBound ahead of ErrStale
	for n := 1; n <= 4; n++ {
		d := start(t, n)
		some(t, d, 2)
		before := sight(d)
		for _, worker := range append([]int{-1, n, n + 1}, wild...) {
			for _, o := range []api.Object{{At: 0}, {At: 2}, {Node: -1}} {
				if err := d.Give(worker, o); err != api.ErrBound || sight(d) != before {
					t.Error(n, worker, o, err)
				}
			}
		}
	}
}

func TestGiveStale(t *testing.T) { // P51: all that is not taken, just so, and what lies in any magazine; nothing is changed
	d := depot(t, cache(t, nodes(0, 2, 1), 5), 2)
	for range 22 {
		if _, err := d.Take(0, 0, false); err != nil {
			t.Fatal(err)
		}
	}
	if _, err := d.Take(0, 1, false); err != nil { // {1 0}
		t.Fatal(err)
	}
	give(t, d, 0, 0, 5, 10, 15, 20, 25, 30, 35, 40, 45, 50, 55) // two full ones of worker 0, and the pile
	give(t, d, 1, 64, 69, 74, 79, 84)
	if err := d.Cache().Give(api.Object{At: 89}); err != nil {
		t.Fatal(err)
	}
	held := []api.Object{{At: 94}, {At: 99}, {At: 104}, {At: 109}, {Node: 1}} // with who took it
	holds(t, d, 13, 4)
	before := sight(d)
	stale := func(o api.Object) {
		t.Helper()
		for worker := range 2 {
			if err := d.Give(worker, o); err != api.ErrStale || sight(d) != before {
				t.Fatal(worker, o, err, sight(d))
			}
		}
	}
	for node := -1; node <= 2; node++ {
		for at := -70; at <= 200; at++ {
			if o := (api.Object{Node: node, At: at}); !slices.Contains(held, o) {
				stale(o)
			}
		}
		for _, at := range wild {
			stale(api.Object{Node: node, At: at})
		}
	}
	for _, node := range wild {
		stale(api.Object{Node: node, At: 94})
	}
	take(t, d, 0, 55, 50, 45, 40, 15, 10, 5, 0, 35, 30, 25, 20) // each where it was
	take(t, d, 1, 84, 79, 74, 69, 64)
	for _, o := range held {
		if err := d.Give(1, o); err != nil {
			t.Error(o, err)
		}
		before = sight(d)
		stale(o) // twice
	}
}

func TestGiveWhatTheCacheGave(t *testing.T) { // P51: it asks for objects of the cache that are taken, whoever took them
	d := start(t, 2)
	o, err := d.Cache().Take(0, false)
	if err != nil {
		t.Fatal(err)
	}
	take(t, d, 0, 1)
	if err := d.Give(1, o); err != nil {
		t.Error(err)
	}
	give(t, d, 1, 1) // and whoever of the workers
	holds(t, d, 2, 0)
	take(t, d, 1, 1, 0, 2)
	if o, err := d.Cache().Take(0, false); o != (api.Object{At: 3}) || err != nil {
		t.Error(o, err)
	}
}

func TestDrain(t *testing.T) { // P52: the worker's magazines alone, both; the objects are free
	d := start(t, 3)
	some(t, d, 30)
	give(t, d, 0, from(0, 9)...)
	give(t, d, 1, from(10, 14)...)
	give(t, d, 2, 15)
	holds(t, d, 12, 4)
	drain(t, d, 1, 5)
	holds(t, d, 7, 4)
	drain(t, d, 1, 0)
	drain(t, d, 0, 6)
	holds(t, d, 1, 4)
	drain(t, d, 2, 1)
	holds(t, d, 0, 4)
	if got, want := fmt.Sprint(d.Cache().Taken()), "[{0 4} {0 5} {0 6} {0 7} {0 16} {0 17} {0 18} {0 19} {0 20} {0 21} {0 22} {0 23} {0 24} {0 25} {0 26} {0 27} {0 28} {0 29}]"; got != want {
		t.Error(got)
	}
	take(t, d, 1, 7, 6, 5, 4, 0, 1, 2, 3, 8) // the pile is there still; then the cache's first one
	give(t, d, 1, from(16, 20)...)           // both are as new: 4, and 1
	holds(t, d, 5, 0)
	take(t, d, 1, 20, 19, 18, 17, 16, 9)
}

func TestDrainOfNoWorker(t *testing.T) { // P52: ErrBound
	for n := 1; n <= 4; n++ {
		d := start(t, n)
		some(t, d, 9)
		give(t, d, n-1, from(0, 8)...)
		before := sight(d)
		for _, worker := range append([]int{-1, n, n + 1}, wild...) {
			if k, err := d.Drain(worker); k != 0 || err != api.ErrBound || sight(d) != before {
				t.Error(n, worker, k, err)
			}
		}
	}
}

func TestEmpty(t *testing.T) { // P52: the pile alone, all of it; the objects are free
	d := start(t, 2)
	some(t, d, 30)
	give(t, d, 0, from(0, 16)...)
	give(t, d, 1, from(17, 29)...)
	holds(t, d, 10, 20)
	empty(t, d, 20)
	holds(t, d, 10, 0)
	empty(t, d, 0)
	if got, want := fmt.Sprint(d.Cache().Taken()), "[{0 0} {0 1} {0 2} {0 3} {0 16} {0 17} {0 18} {0 19} {0 20} {0 29}]"; got != want {
		t.Error(got)
	}
	take(t, d, 0, 16, 3, 2, 1, 0, 4)
	take(t, d, 1, 29, 20, 19, 18, 17, 5)
	give(t, d, 0, 0, 1, 2, 3, 4, 5, 16, 17, 18)
	holds(t, d, 5, 4)
	empty(t, d, 4)
}

func TestPagesComeBack(t *testing.T) { // P51, P52: a slab with objects in magazines does not go; behind Drain and Empty it does
	z, err := zone.New(nodes(0, 4))
	if err != nil {
		t.Fatal(err)
	}
	c, err := slab.New(z, 13)
	if err != nil {
		t.Fatal(err)
	}
	d := depot(t, c, 2)
	for range 16 {
		if _, err := d.Take(0, 0, false); err != nil {
			t.Fatal(err)
		}
	}
	for i, o := range append(c.Taken()[2:], c.Taken()[:2]...) {
		if err := d.Give(i/10, o); err != nil {
			t.Fatal(o, err)
		}
	}
	shrinks := func(want, free int) {
		t.Helper()
		n, err := c.Shrink(0, 9)
		if f, _ := z.Free(0); n != want || err != nil || f != free {
			t.Fatal(n, err, f)
		}
	}
	shrinks(0, 0)
	empty(t, d, 4) // half of the second page, and of the third
	shrinks(0, 0)
	drain(t, d, 1, 6) // the fourth page, and half of the first
	shrinks(1, 1)
	drain(t, d, 0, 6)
	shrinks(3, 4)
}

func TestDepotsOfOneCache(t *testing.T) { // P51, P53: what lies in a magazine of one is stale for another; nobody has it twice
	c := cache(t, nodes(0, 1), 1)
	a, b := depot(t, c, 2), depot(t, c, 1)
	some(t, a, 20)
	give(t, a, 0, from(0, 9)...)
	give(t, b, 0, from(10, 14)...)
	beforeA, beforeB := sight(a), sight(b)
	stale := func(d *magazine.Depot, ats []int) {
		t.Helper()
		for _, at := range ats {
			if err := d.Give(0, api.Object{At: at}); err != api.ErrStale || sight(a) != beforeA || sight(b) != beforeB {
				t.Fatal(at, err)
			}
		}
	}
	stale(b, from(0, 14))
	stale(a, from(0, 14))
	take(t, a, 0, 9)
	give(t, b, 0, 9) // who took it may give it to any
	take(t, b, 0, 9, 14, 13, 12, 11, 10, 20)
	holds(t, a, 5, 4)
	holds(t, b, 0, 0)
}

func TestGivenToTheCacheItself(t *testing.T) { // P53: what is free lies in no magazine; it is not had twice when it is taken again
	d := start(t, 2)
	some(t, d, 20)
	give(t, d, 0, from(0, 17)...) // 16 and 17 are loaded; the other one: 0 to 3; the pile: 4 to 7, 8 to 11, 12 to 15
	holds(t, d, 6, 12)
	past := func(ats ...int) {
		t.Helper()
		for _, at := range ats {
			if err := d.Cache().Give(api.Object{At: at}); err != nil {
				t.Fatal(at, err)
			}
			if err := d.Give(0, api.Object{At: at}); err != api.ErrStale {
				t.Fatal(at, err)
			}
		}
	}
	past(17, 1, 8, 9, 10, 11, 4, 7)
	holds(t, d, 4, 6)
	for _, at := range []int{1, 4} {
		if o, err := d.Cache().Take(0, false); o != (api.Object{At: at}) || err != nil {
			t.Fatal(o, err)
		}
	}
	holds(t, d, 4, 6)
	take(t, d, 0, 16, 3, 2, 0, 15)
	take(t, d, 1, 6, 5, 7)
	past(12, 13, 14)
	holds(t, d, 0, 0)
	drain(t, d, 0, 0)
	empty(t, d, 0)
	take(t, d, 0, 8, 9)
}

func TestDrainBehindTheCache(t *testing.T) { // P52, P53: how many go back: not those that are there already
	d := start(t, 1)
	some(t, d, 12)
	give(t, d, 0, from(0, 11)...)
	for _, at := range []int{0, 4, 5, 11} {
		if err := d.Cache().Give(api.Object{At: at}); err != nil {
			t.Fatal(at, err)
		}
	}
	empty(t, d, 2)
	drain(t, d, 0, 6)
	if sight(d) != "0 0 0 64 [{0 {0 0}}] []" {
		t.Error(sight(d))
	}
}

func TestNoCache(t *testing.T) { // P1: a cache, and a depot, that New did not make, such as might be handed over
	d := depot(t, &slab.Cache{}, 1)
	if o, err := d.Take(0, 0, true); o != (api.Object{}) || err != api.ErrBound {
		t.Error(o, err)
	}
	if err := d.Give(0, api.Object{}); err != api.ErrStale {
		t.Error(err)
	}
	drain(t, d, 0, 0)
	d = &magazine.Depot{}
	o, e1 := d.Take(0, 0, true)
	e2 := d.Give(0, api.Object{})
	n, e3 := d.Drain(0)
	if o != (api.Object{}) || n != 0 || e1 != api.ErrBound || e2 != api.ErrBound || e3 != api.ErrBound || d.Cache() != nil || d.Workers() != 0 {
		t.Error(o, n, e1, e2, e3)
	}
	empty(t, d, 0)
	holds(t, d, 0, 0)
}
