package reclaim_test

import (
	"cmp"
	"fmt"
	"slices"
	"testing"

	"slabyard/api"
	"slabyard/slab"
	"slabyard/zone"
)

// model is what a house ought to be: over a zone and caches of its own, of which the same is asked, the objects in each
// magazine, and the pages that somebody else has.
type model struct {
	c      zone.Config
	z      *zone.Zone
	depots []*shelf
	lost   []api.Place
}

// shelf of magazines ahead of a cache.
type shelf struct {
	c             *slab.Cache
	loaded, other [][]api.Object // of each worker
	pile          [][]api.Object
	with          []api.Object // who took it has it
}

func newModel(t *testing.T, c zone.Config, workers int, sizes ...int) *model {
	t.Helper()
	z, err := zone.New(c)
	if err != nil {
		t.Fatal(c, err)
	}
	m := &model{c: c, z: z}
	for _, size := range sizes {
		l, err := slab.New(z, size)
		if err != nil {
			t.Fatal(size, err)
		}
		m.depots = append(m.depots, &shelf{c: l, loaded: make([][]api.Object, workers), other: make([][]api.Object, workers)})
	}
	return m
}

// last of a list, taken off it.
func last[T any](l *[]T) T {
	x := (*l)[len(*l)-1]
	*l = slices.Clone((*l)[:len(*l)-1])
	return x
}

// without an object.
func without(l []api.Object, o api.Object) []api.Object {
	return slices.DeleteFunc(slices.Clone(l), func(x api.Object) bool { return x == o })
}

func (s *shelf) take(w, node int, urgent bool) (api.Object, error) {
	if w < 0 || w >= len(s.loaded) {
		return api.Object{}, api.ErrBound
	}
	if len(s.loaded[w]) == 0 {
		s.loaded[w], s.other[w] = s.other[w], nil
	}
	if len(s.loaded[w]) == 0 && len(s.pile) > 0 {
		s.loaded[w] = last(&s.pile)
	}
	if len(s.loaded[w]) > 0 {
		o := last(&s.loaded[w])
		s.with = append(s.with, o)
		return o, nil
	}
	o, err := s.c.Take(node, urgent)
	if err == nil {
		s.with = append(s.with, o)
	}
	return o, err
}

func (s *shelf) give(w int, o api.Object) error {
	if w < 0 || w >= len(s.loaded) {
		return api.ErrBound
	}
	if !slices.Contains(s.with, o) {
		return api.ErrStale
	}
	s.with = without(s.with, o)
	if len(s.loaded[w]) == 4 && len(s.other[w]) == 0 {
		s.loaded[w], s.other[w] = nil, s.loaded[w]
	}
	if len(s.loaded[w]) == 4 {
		s.pile = append(s.pile, s.loaded[w])
		s.loaded[w] = nil
	}
	s.loaded[w] = append(slices.Clone(s.loaded[w]), o)
	return nil
}

// back gives what lies in magazines to the cache.
func (s *shelf) back(t *testing.T, l ...*[]api.Object) int {
	t.Helper()
	n := 0
	for _, x := range l {
		for _, o := range *x {
			n++
			if err := s.c.Give(o); err != nil {
				t.Fatal(o, err)
			}
		}
		*x = nil
	}
	return n
}

func (s *shelf) drain(t *testing.T, w int) int { return s.back(t, &s.loaded[w], &s.other[w]) }

func (s *shelf) empty(t *testing.T) int {
	l := slices.Concat(s.pile...)
	s.pile = nil
	return s.back(t, &l)
}

// lying lists what lies in magazines.
func (s *shelf) lying() []api.Object {
	l := slices.Concat(slices.Concat(s.loaded...), slices.Concat(s.other...), slices.Concat(s.pile...))
	slices.SortFunc(l, byPlace)
	return l
}

func byPlace(a, b api.Object) int {
	return cmp.Or(cmp.Compare(a.Node, b.Node), cmp.Compare(a.At, b.At))
}

func (m *model) lack(t *testing.T, node int) int {
	t.Helper()
	free, err := m.z.Free(node)
	if err != nil {
		t.Fatal(err)
	}
	return max(0, m.c.Marks.High-free)
}

func (m *model) reclaim(t *testing.T, node int) (int, error) {
	t.Helper()
	if node < 0 || node >= len(m.c.Pages) {
		return 0, api.ErrBound
	}
	came := 0
	shrink := func(s *shelf) {
		n, err := s.c.Shrink(node, m.lack(t, node))
		if came += n; err != nil {
			t.Fatal(err)
		}
	}
	for _, s := range m.depots {
		shrink(s) // by 0, where nothing lacks
	}
	for _, s := range m.depots {
		if m.lack(t, node) > 0 {
			s.empty(t)
			shrink(s)
		}
	}
	for _, s := range m.depots {
		for w := range s.loaded {
			if m.lack(t, node) > 0 {
				s.drain(t, w)
				shrink(s)
			}
		}
	}
	return came, nil
}

// nearest nodes of one: of each distance from 0 on, by number.
func (m *model) nearest(node int) []int {
	var l []int
	for far := range 1001 {
		for n, x := range m.c.Near[node] {
			if x == far {
				l = append(l, n)
			}
		}
	}
	return l
}

func (m *model) take(t *testing.T, i, w, node int) (api.Object, error) {
	t.Helper()
	if i < 0 || i >= len(m.depots) {
		return api.Object{}, api.ErrBound
	}
	o, err := m.depots[i].take(w, node, false)
	if err == api.ErrLow || err == api.ErrFull {
		for _, n := range m.nearest(node) {
			if _, err := m.reclaim(t, n); err != nil {
				t.Fatal(err)
			}
		}
		o, err = m.depots[i].take(w, node, true)
	}
	return o, err
}

func (m *model) give(t *testing.T, i, w int, o api.Object) error {
	t.Helper()
	if i < 0 || i >= len(m.depots) {
		return api.ErrBound
	}
	if err := m.depots[i].give(w, o); err != nil {
		return err
	}
	if free, err := m.z.Free(o.Node); err != nil || free < m.c.Marks.Low {
		_, err := m.reclaim(t, o.Node)
		return err
	}
	return nil
}

// past gives an object to the cache itself: wherever it was, it is there no more.
func (m *model) past(i int, o api.Object) error {
	s := m.depots[i]
	for w := range s.loaded {
		s.loaded[w], s.other[w] = without(s.loaded[w], o), without(s.other[w], o)
	}
	for k := range s.pile {
		s.pile[k] = without(s.pile[k], o)
	}
	s.pile = slices.DeleteFunc(s.pile, func(l []api.Object) bool { return len(l) == 0 })
	s.with = without(s.with, o)
	return s.c.Give(o)
}

// audit: what nobody else has is the house's.
func (m *model) audit() error {
	if len(m.lost) > 0 {
		return api.ErrShape
	}
	return nil
}

func (m *model) sight() (s string) {
	for node := range m.c.Pages {
		b, _ := m.z.Node(node)
		s += fmt.Sprint(b.Free(), b.Taken())
	}
	for _, d := range m.depots {
		workers := len(slices.Concat(d.loaded...)) + len(slices.Concat(d.other...))
		s += fmt.Sprint(workers, len(slices.Concat(d.pile...)), d.c.Slabs(), d.c.Taken(), d.lying())
	}
	return s
}

// key is a state: in what order something was taken makes none.
func (m *model) key() string {
	s := fmt.Sprint(m.lost)
	for _, d := range m.depots {
		s += fmt.Sprint(d.loaded, d.other, d.pile)
	}
	return s + m.sight()
}

// call is one of a house, or of what is in it by somebody else.
type call struct {
	kind            int
	i, worker, node int
	o               api.Object
}

const (
	takes = iota
	gives
	reclaims
	drains
	empties
	shrinks
	loses
	finds
	takesPast
	givesPast
)

// makeCall makes it of a house and of the model, and holds the answers against each other.
func (r rig) makeCall(m *model, x call) {
	r.Helper()
	var got, want string
	switch x.kind {
	case takes:
		o, err := r.h.Take(x.i, x.worker, x.node)
		p, e := m.take(r.T, x.i, x.worker, x.node)
		got, want = fmt.Sprint(o, err), fmt.Sprint(p, e)
	case gives:
		got, want = fmt.Sprint(r.h.Give(x.i, x.worker, x.o)), fmt.Sprint(m.give(r.T, x.i, x.worker, x.o))
	case reclaims:
		n, err := r.h.Reclaim(x.node)
		k, e := m.reclaim(r.T, x.node)
		got, want = fmt.Sprint(n, err), fmt.Sprint(k, e)
	case drains:
		n, err := r.depot(x.i).Drain(x.worker)
		got, want = fmt.Sprint(n, err), fmt.Sprint(m.depots[x.i].drain(r.T, x.worker), nil)
	case empties:
		got, want = fmt.Sprint(r.depot(x.i).Empty()), fmt.Sprint(m.depots[x.i].empty(r.T))
	case shrinks:
		n, err := r.depot(x.i).Cache().Shrink(x.node, 1)
		k, e := m.depots[x.i].c.Shrink(x.node, 1)
		got, want = fmt.Sprint(n, err), fmt.Sprint(k, e)
	case loses:
		p, err := r.h.Zone().Take(x.node, 0, true)
		q, e := m.z.Take(x.node, 0, true)
		if e == nil {
			m.lost = append(m.lost, q)
		}
		got, want = fmt.Sprint(p, err), fmt.Sprint(q, e)
	case finds:
		if len(m.lost) > 0 {
			p := last(&m.lost)
			got, want = fmt.Sprint(r.h.Zone().Give(p)), fmt.Sprint(m.z.Give(p))
		}
	case takesPast:
		o, err := r.depot(x.i).Take(x.worker, x.node, true)
		p, e := m.depots[x.i].take(x.worker, x.node, true)
		got, want = fmt.Sprint(o, err), fmt.Sprint(p, e)
	case givesPast:
		got, want = fmt.Sprint(r.depot(x.i).Cache().Give(x.o)), fmt.Sprint(m.past(x.i, x.o))
	}
	if got != want {
		r.Fatalf("%+v: %s, want %s; %s", x, got, want, m.key())
	}
}

// same holds all that can be told of a house against the model.
func (r rig) same(m *model) {
	r.Helper()
	if got, want := r.sight(), m.sight(); got != want {
		r.Fatalf("%s, want %s; %s", got, want, m.key())
	}
	if err := r.h.Audit(); err != m.audit() {
		r.Fatal(err, m.key())
	}
	for _, s := range m.depots { // each object is with one who took it, in one magazine, or free
		l := append(s.lying(), s.with...)
		if slices.SortFunc(l, byPlace); !slices.Equal(l, s.c.Taken()) {
			r.Fatal(l, s.c.Taken())
		}
	}
}

// plan of a small house.
type plan struct {
	c       zone.Config
	workers int
	sizes   []int
	more    []int // kinds of calls beside those of the house itself
	least   int   // states there are
}

// calls are all that may be asked, and some that may not.
func (x plan) calls() []call {
	var l []call
	for i := range len(x.sizes) + 1 {
		for worker := range x.workers + 1 {
			for node := range len(x.c.Pages) + 1 {
				l = append(l, call{kind: takes, i: i, worker: worker, node: node})
			}
			for _, o := range x.objects(i) {
				l = append(l, call{kind: gives, i: i, worker: worker, o: o})
			}
		}
	}
	for node := range len(x.c.Pages) + 1 {
		l = append(l, call{kind: reclaims, node: node})
	}
	for _, kind := range x.more {
		for i := range x.sizes {
			for node := range x.c.Pages {
				l = append(l, call{kind: kind, i: i, node: node})
			}
		}
	}
	return l
}

// objects there may be of a depot, and one of no depot.
func (x plan) objects(i int) []api.Object {
	if i == len(x.sizes) {
		return []api.Object{{}}
	}
	var l []api.Object
	for node, pages := range x.c.Pages {
		for at := 0; at < 64*pages; at++ {
			if at%64%x.sizes[i] == 0 && at%64+x.sizes[i] <= 64 {
				l = append(l, api.Object{Node: node, At: at})
			}
		}
	}
	return l
}

// near is a config of three nodes, each with an order of its own.
func near(least, low, high int, pages ...int) zone.Config {
	c := nodes(least, low, high, pages...)
	c.Near = [][]int{{1, 3, 2}, {9, 0, 8}, {6, 5, 4}}
	return c
}

func TestAllStates(t *testing.T) { // P91, P92, P93: each state that few objects can come to, and each call there
	for _, x := range []plan{
		{nodes(0, 0, 1, 1), 2, []int{32, 64}, []int{loses, finds}, 20},
		{nodes(0, 1, 2, 2), 2, []int{32}, []int{drains, shrinks}, 80},
		{nodes(0, 1, 2, 3), 2, []int{64, 64}, []int{loses, finds}, 200},
		{nodes(1, 1, 2, 3), 2, []int{64, 64}, []int{takesPast, empties}, 200},
		{nodes(0, 0, 1, 1, 1), 1, []int{32, 64}, []int{drains, shrinks}, 200},
		{nodes(0, 1, 1, 1, 1), 2, []int{32, 64}, nil, 20},
		{nodes(1, 2, 2, 2, 1), 1, []int{64, 32}, []int{loses, finds, takesPast}, 200},
		{near(0, 1, 1, 1, 1, 1), 1, []int{64, 64}, []int{loses, finds}, 70},
		{near(0, 0, 1, 1, 1, 1), 1, []int{64, 64, 64}, nil, 500},
		{nodes(0, 0, 1, 1), 1, []int{12}, []int{empties, shrinks}, 900},
	} {
		t.Run(fmt.Sprint(x.c, x.sizes), func(t *testing.T) {
			t.Parallel()
			x.allStates(t)
		})
	}
}

func (x plan) allStates(t *testing.T) {
	calls := x.calls()
	seen := map[string]bool{}
	ways := [][]call{nil} // the calls that lead to a state: a house has no copy
	for len(ways) > 0 {
		way := ways[0]
		ways = ways[1:]
		for _, last := range calls {
			r, m := build(t, x.c, x.workers, x.sizes...), newModel(t, x.c, x.workers, x.sizes...)
			for _, y := range append(slices.Clone(way), last) {
				r.makeCall(m, y)
			}
			r.same(m)
			if key := m.key(); !seen[key] {
				seen[key] = true
				ways = append(ways, append(slices.Clone(way), last))
			}
		}
	}
	if len(seen) < x.least {
		t.Errorf("%+v: %d states only", x, len(seen))
	}
}

// walker goes a long way over a house.
type walker struct {
	rig
	m     *model
	state uint32
	wild  bool // others take and give, too
}

func (w *walker) next(n int) int {
	w.state = w.state*1664525 + 1013904223
	return int(w.state>>8) % n
}

// pick an object that somebody has of a depot, most of the time.
func (w *walker) pick(i int) api.Object {
	s := w.m.depots[i]
	if l := s.c.Taken(); len(l) > 0 && (len(s.with) == 0 || w.next(10) == 0) {
		return l[w.next(len(l))]
	}
	if len(s.with) == 0 {
		return api.Object{At: w.next(64)}
	}
	return s.with[w.next(len(s.with))]
}

// call is one that is made where more is taken than given, or less.
func (w *walker) call(up bool) call {
	x := call{i: w.next(len(w.m.depots)), worker: w.next(len(w.m.depots[0].loaded)), node: w.next(len(w.m.c.Pages))}
	x.o = w.pick(x.i)
	k := w.next(100)
	if w.wild && k < 14 {
		x.kind = []int{reclaims, drains, empties, shrinks, loses, finds, finds, takesPast, givesPast}[w.next(9)]
		return x
	}
	if k < 2 {
		x.kind = reclaims
		return x
	}
	if x.kind = gives; up == (k < 75) {
		x.kind = takes
	}
	return x
}

// home gives all back.
func (w *walker) home() {
	w.Helper()
	for len(w.m.lost) > 0 {
		w.makeCall(w.m, call{kind: finds})
	}
	for i, s := range w.m.depots {
		for len(s.with) > 0 {
			w.makeCall(w.m, call{kind: gives, i: i, o: s.with[0]})
		}
	}
	w.same(w.m)
}

func TestWalk(t *testing.T) { // P91, P92, P93, P94: long ways, also with others who take and give, and back to the beginning
	for k, x := range []plan{
		{nodes(0, 2, 4, 8), 1, []int{8}, nil, 0},
		{nodes(1, 2, 3, 6, 4), 2, []int{16, 40}, nil, 0},
		{nodes(2, 4, 9, 16, 9), 2, []int{64, 21, 30}, nil, 0},
		{near(1, 1, 5, 5, 7, 3), 3, []int{33, 64, 64, 12}, nil, 0},
		{near(0, 3, 3, 4, 4, 4), 4, []int{64, 32, 16, 8, 20, 64, 40, 1}, nil, 0},
		{nodes(3, 8, 20, 30, 10, 1, 20), 4, []int{64, 64}, nil, 0},
		{nodes(0, 0, 0, 5, 2), 2, []int{24, 64}, nil, 0},
		{near(5, 300, 400, 20, 20, 20), 2, []int{50, 30}, nil, 0},
	} {
		for wild := range 2 {
			t.Run(fmt.Sprint(k, wild), func(t *testing.T) {
				t.Parallel()
				w := &walker{build(t, x.c, x.workers, x.sizes...), newModel(t, x.c, x.workers, x.sizes...), uint32(2*k + wild), wild == 1}
				first := w.sight()
				for step := range 2500 {
					w.makeCall(w.m, w.call(step/120%2 == 0))
					w.same(w.m)
				}
				w.home()
				w.shut(first)
			})
		}
	}
}
