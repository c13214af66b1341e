package magazine_test

import (
	"fmt"
	"slices"
	"testing"

	"slabyard/api"
	"slabyard/magazine"
	"slabyard/slab"
	"slabyard/zone"
)

// model is what a depot ought to be: over a cache of its own, of which the same is asked, the objects in each magazine.
type model struct {
	c             *slab.Cache
	loaded, other [][]api.Object // of each worker
	pile          [][]api.Object
	with          []api.Object // who took it has it
}

func newModel(t *testing.T, c zone.Config, size, workers int) *model {
	t.Helper()
	return &model{c: cache(t, c, size), loaded: make([][]api.Object, workers), other: make([][]api.Object, workers)}
}

// last of a list, taken off it.
func last[T any](l *[]T) T {
	x := (*l)[len(*l)-1]
	*l = slices.Clone((*l)[:len(*l)-1])
	return x
}

func (m *model) take(w, node int, urgent bool) (api.Object, error) {
	if w < 0 || w >= len(m.loaded) {
		return api.Object{}, api.ErrBound
	}
	switch {
	case len(m.loaded[w]) > 0:
	case len(m.other[w]) > 0:
		m.loaded[w], m.other[w] = m.other[w], nil
	case len(m.pile) > 0:
		m.loaded[w] = last(&m.pile)
	default:
		o, err := m.c.Take(node, urgent)
		if err == nil {
			m.with = append(m.with, o)
		}
		return o, err
	}
	o := last(&m.loaded[w])
	m.with = append(m.with, o)
	return o, nil
}

func (m *model) give(w int, o api.Object) error {
	if w < 0 || w >= len(m.loaded) {
		return api.ErrBound
	}
	k := slices.Index(m.with, o)
	if k < 0 {
		return api.ErrStale
	}
	m.with = slices.Delete(m.with, k, k+1)
	if len(m.loaded[w]) == 4 {
		if len(m.other[w]) == 0 {
			m.other[w] = m.loaded[w]
		} else {
			m.pile = append(m.pile, m.loaded[w])
		}
		m.loaded[w] = nil
	}
	m.loaded[w] = append(slices.Clone(m.loaded[w]), o)
	return nil
}

// back gives objects to the cache.
func (m *model) back(t *testing.T, l []api.Object) int {
	t.Helper()
	for _, o := range l {
		if err := m.c.Give(o); err != nil {
			t.Fatal(o, err)
		}
	}
	return len(l)
}

func (m *model) drain(t *testing.T, w int) (int, error) {
	t.Helper()
	if w < 0 || w >= len(m.loaded) {
		return 0, api.ErrBound
	}
	n := m.back(t, m.loaded[w]) + m.back(t, m.other[w])
	m.loaded[w], m.other[w] = nil, nil
	return n, nil
}

func (m *model) empty(t *testing.T) int {
	t.Helper()
	n := m.back(t, slices.Concat(m.pile...))
	m.pile = nil
	return n
}

// past gives an object to the cache itself: wherever it was, it is there no more.
func (m *model) past(o api.Object) error {
	without := func(l []api.Object) []api.Object {
		return slices.DeleteFunc(slices.Clone(l), func(x api.Object) bool { return x == o })
	}
	for w := range m.loaded {
		m.loaded[w], m.other[w] = without(m.loaded[w]), without(m.other[w])
	}
	for i := range m.pile {
		m.pile[i] = without(m.pile[i])
	}
	m.pile = slices.DeleteFunc(m.pile, func(l []api.Object) bool { return len(l) == 0 })
	m.with = without(m.with)
	return m.c.Give(o)
}

func (m *model) sight() string {
	taken, room := m.c.Count()
	workers := len(slices.Concat(m.loaded...)) + len(slices.Concat(m.other...))
	return fmt.Sprint(workers, len(slices.Concat(m.pile...)), taken, room, m.c.Slabs(), m.c.Taken())
}

// check that each object is with one, in one magazine, or free (P53).
func (m *model) check(t *testing.T) {
	t.Helper()
	l := slices.Concat(m.with, slices.Concat(m.loaded...), slices.Concat(m.other...), slices.Concat(m.pile...))
	slices.SortFunc(l, func(a, b api.Object) int { return (a.Node-b.Node)*1000000 + a.At - b.At })
	if !slices.Equal(l, m.c.Taken()) {
		t.Fatal(l, m.c.Taken())
	}
}

// call is one of a depot, or of its cache by somebody else.
type call struct {
	kind         int
	worker, node int
	urgent       bool
	o            api.Object
}

const (
	takes = iota
	gives
	drains
	empties
	takesPast
	givesPast
	shrinks
)

// makeCall makes it of a depot and of the model, and holds the answers against each other.
func makeCall(t *testing.T, d *magazine.Depot, m *model, x call) {
	t.Helper()
	var got, want string
	switch x.kind {
	case takes:
		o, err := d.Take(x.worker, x.node, x.urgent)
		p, e := m.take(x.worker, x.node, x.urgent)
		got, want = fmt.Sprint(o, err), fmt.Sprint(p, e)
	case gives:
		got, want = fmt.Sprint(d.Give(x.worker, x.o)), fmt.Sprint(m.give(x.worker, x.o))
	case drains:
		n, err := d.Drain(x.worker)
		k, e := m.drain(t, x.worker)
		got, want = fmt.Sprint(n, err), fmt.Sprint(k, e)
	case empties:
		got, want = fmt.Sprint(d.Empty()), fmt.Sprint(m.empty(t))
	case takesPast:
		o, err := d.Cache().Take(x.node, x.urgent)
		p, e := m.c.Take(x.node, x.urgent)
		if e == nil {
			m.with = append(m.with, p)
		}
		got, want = fmt.Sprint(o, err), fmt.Sprint(p, e)
	case givesPast:
		got, want = fmt.Sprint(d.Cache().Give(x.o)), fmt.Sprint(m.past(x.o))
	case shrinks:
		n, err := d.Cache().Shrink(x.node, 9)
		k, e := m.c.Shrink(x.node, 9)
		got, want = fmt.Sprint(n, err), fmt.Sprint(k, e)
	}
	if got != want {
		t.Fatalf("%+v: %s, want %s; %+v", x, got, want, m)
	}
}

// same holds all that can be told of a depot against the model.
func same(t *testing.T, d *magazine.Depot, m *model) {
	t.Helper()
	if got, want := sight(d), m.sight(); got != want {
		t.Fatalf("%s, want %s; %+v", got, want, m)
	}
	m.check(t)
}

// everyCall is all that may be asked of a depot of few objects, and some that may not.
func everyCall(size, pages, workers int) []call {
	l := []call{{kind: empties}, {kind: takesPast, urgent: true}, {kind: shrinks}}
	var ats []int
	for page := range pages {
		for at := page * 64; at+size <= page*64+64; at += size {
			ats = append(ats, at)
		}
	}
	for worker := range workers + 1 {
		l = append(l, call{kind: takes, worker: worker}, call{kind: drains, worker: worker})
		for _, at := range ats {
			l = append(l, call{kind: gives, worker: worker, o: api.Object{At: at}})
		}
	}
	for _, at := range ats {
		l = append(l, call{kind: givesPast, o: api.Object{At: at}})
	}
	return l
}

func TestAllStates(t *testing.T) { // P51, P52, P53: each state that few objects can come to, and each call there
	for _, x := range []struct{ size, pages, workers, least int }{
		{32, 2, 1, 50},
		{21, 1, 3, 100},
		{16, 1, 2, 300},
		{12, 1, 1, 200},
	} {
		c := nodes(0, x.pages)
		seen := map[string]bool{}
		ways := [][]call{nil} // the calls that lead to a state: a depot has no copy
		for len(ways) > 0 {
			way := ways[0]
			ways = ways[1:]
			for _, last := range everyCall(x.size, x.pages, x.workers) {
				d, m := depot(t, cache(t, c, x.size), x.workers), newModel(t, c, x.size, x.workers)
				for _, y := range append(slices.Clone(way), last) {
					makeCall(t, d, m, y)
				}
				same(t, d, m)
				// Who has an object is not to be told of the depot: in what order it was taken makes no state.
				if key := fmt.Sprint(m.loaded, m.other, m.pile, m.sight()); !seen[key] {
					seen[key] = true
					ways = append(ways, append(slices.Clone(way), last))
				}
			}
		}
		if len(seen) < x.least {
			t.Errorf("%+v: %d states only", x, len(seen))
		}
	}
}

// walk goes a long way over a depot, where more is taken than given for a while, then less, and back to the beginning.
func walk(t *testing.T, c zone.Config, size, workers, seed int, past bool) {
	t.Helper()
	d, m := depot(t, cache(t, c, size), workers), newModel(t, c, size, workers)
	state := uint32(seed)
	next := func(n int) int {
		state = state*1664525 + 1013904223
		return int(state>>8) % n
	}
	pick := func() api.Object { // one that somebody has, most of the time
		if l := m.c.Taken(); len(l) > 0 && (len(m.with) == 0 || next(8) == 0) {
			return l[next(len(l))]
		}
		if len(m.with) == 0 {
			return api.Object{At: next(64)}
		}
		return m.with[next(len(m.with))]
	}
	for step := range 2500 {
		x := call{worker: next(workers), node: next(len(c.Pages)), urgent: next(3) == 0}
		x.o = pick()
		up := step/120%2 == 0
		switch k := next(100); {
		case k < 1:
			x.kind = drains
		case k < 2 && step%3 == 0:
			x.kind = empties
		case k < 4:
			x.kind = shrinks
		case k < 6:
			x.kind = takesPast
		case past && k < 12:
			x.kind = givesPast
		case up == (k < 75):
			x.kind = takes
		default:
			x.kind = gives
		}
		makeCall(t, d, m, x)
		same(t, d, m)
	}
	for len(m.with) > 0 {
		makeCall(t, d, m, call{kind: gives, worker: next(workers), o: m.with[0]})
	}
	for worker := range workers {
		makeCall(t, d, m, call{kind: drains, worker: worker})
	}
	makeCall(t, d, m, call{kind: empties})
	for node := range c.Pages {
		for range 40 {
			makeCall(t, d, m, call{kind: shrinks, node: node})
		}
	}
	if same(t, d, m); sight(d) != "0 0 0 0 [] []" {
		t.Fatal(sight(d))
	}
}

func TestWalk(t *testing.T) { // P51, P52, P53: long ways, by each number of workers, also with others who give to the cache itself
	for i, x := range []struct {
		c             zone.Config
		size, workers int
	}{
		{nodes(0, 4), 8, 1},
		{nodes(1, 3, 2), 13, 2},
		{nodes(0, 30, 10), 30, 2},
		{nodes(2, 5, 5, 5), 9, 3},
		{nodes(0, 2, 1, 4, 1), 7, 4},
		{nodes(1, 40), 64, 4},
	} {
		walk(t, x.c, x.size, x.workers, 2*i, false)
		walk(t, x.c, x.size, x.workers, 2*i+1, true)
	}
}

func TestManyObjects(t *testing.T) { // P51, P52: a high pile, from the top down
	d := depot(t, cache(t, nodes(0, 64), 2), 4)
	var l []api.Object
	for i := range 2048 {
		o, err := d.Take(i%4, 0, false)
		if o != (api.Object{At: 2 * i}) || err != nil {
			t.Fatal(i, o, err)
		}
		l = append(l, o)
	}
	for _, o := range l {
		if err := d.Give(3, o); err != nil {
			t.Fatal(o, err)
		}
	}
	holds(t, d, 8, 2040)
	for k := range 510 {
		for i := range 4 {
			want := l[2047-4*(k+1)-i]
			if k == 509 {
				want = l[7-i]
			}
			if o, err := d.Take(0, 0, false); o != want || err != nil {
				t.Fatal(k, i, o, err, want)
			}
		}
	}
	holds(t, d, 8, 0)
	drain(t, d, 3, 8)
}

func TestSameAnswers(t *testing.T) { // P2: the same calls, the same answers, of each of two that stand side by side
	tell := func() func() string {
		d := depot(t, cache(t, nodes(1, 3, 2), 11), 3)
		i := 0
		return func() string {
			i++
			o, err := d.Take(i%3, i%2, i%5 == 0)
			s := fmt.Sprint(o, err)
			if taken := d.Cache().Taken(); i%4 > 0 && len(taken) > 0 {
				s += fmt.Sprint(d.Give(i%2, taken[i%len(taken)]))
			}
			if i%31 == 0 {
				n, err := d.Drain(i % 3)
				s += fmt.Sprint(n, err)
			}
			return s + sight(d)
		}
	}
	a, b := tell(), tell()
	for range 300 {
		if x, y := a(), b(); x != y {
			t.Fatal(x, y)
		}
	}
}
