package pool_test

import (
	"cmp"
	"fmt"
	"slices"
	"testing"

	"slabyard/api"
	"slabyard/magazine"
	"slabyard/pool"
	"slabyard/zone"
)

// model is what a pool ought to be: over a depot of its own, of which the same is asked.
type model struct {
	d       *magazine.Depot
	nodes   int
	most    int
	reserve []api.Object
	users   []api.Object // who took it of the pool has it
	others  []api.Object // who took it of the depot has it
	lost    []api.Object // who took it of the pool gave it to the depot
	places  []place      // of all who ever waited
	closed  bool
}

// place of somebody who waited.
type place struct {
	state int
	o     api.Object
}

const (
	waits = iota
	got
	over
)

// newModel of a pool of what a depot has at node 0.
func newModel(t *testing.T, d *magazine.Depot, nodes, most int) *model {
	t.Helper()
	m := &model{d: d, nodes: nodes, most: most}
	for range most {
		o, err := d.Take(0, 0, true)
		if err != nil {
			t.Fatal(err)
		}
		m.reserve = append(m.reserve, o)
	}
	return m
}

// in lists the tickets of those who are in a state.
func (m *model) in(state int) []int {
	var l []int
	for i, x := range m.places {
		if x.state == state {
			l = append(l, i+1)
		}
	}
	return l
}

// without an object.
func without(l []api.Object, o api.Object) []api.Object {
	return slices.DeleteFunc(slices.Clone(l), func(x api.Object) bool { return x == o })
}

func (m *model) take(worker, node int) (api.Object, error) {
	if m.closed {
		return api.Object{}, api.ErrNone
	}
	if worker < 0 || worker >= m.d.Workers() || node < 0 || node >= m.nodes {
		return api.Object{}, api.ErrBound
	}
	if len(m.in(waits)) == 0 {
		o, err := m.d.Take(worker, node, false)
		if err != nil && len(m.reserve) > 0 {
			o, err = m.reserve[len(m.reserve)-1], nil
			m.reserve = without(m.reserve, o)
		}
		if err == nil {
			m.users, m.lost = append(m.users, o), without(m.lost, o)
			return o, nil
		}
	}
	if len(m.in(waits)) == 8 {
		return api.Object{}, api.ErrMany
	}
	m.places = append(m.places, place{})
	return api.Object{}, api.ErrWait
}

func (m *model) give(worker int, o api.Object) error {
	if m.closed {
		return api.ErrNone
	}
	if worker < 0 || worker >= m.d.Workers() {
		return api.ErrBound
	}
	if !slices.Contains(m.users, o) {
		return api.ErrStale
	}
	m.users = without(m.users, o)
	return m.put(worker, o)
}

func (m *model) put(worker int, o api.Object) error {
	switch l := m.in(waits); {
	case len(l) > 0:
		m.places[l[0]-1] = place{got, o}
	case len(m.reserve) < m.most:
		m.reserve = append(slices.Clone(m.reserve), o)
	default:
		return m.d.Give(worker, o)
	}
	return nil
}

func (m *model) ready(ticket int) (api.Object, bool, error) {
	if ticket < 1 || ticket > len(m.places) || m.places[ticket-1].state == over {
		return api.Object{}, false, api.ErrNone
	}
	x := m.places[ticket-1]
	if x.state == waits {
		return api.Object{}, false, nil
	}
	m.places[ticket-1] = place{state: over}
	m.users = append(m.users, x.o)
	return x.o, true, nil
}

func (m *model) cancel(ticket int) error {
	if ticket < 1 || ticket > len(m.places) || m.places[ticket-1].state == over {
		return api.ErrNone
	}
	x := m.places[ticket-1]
	m.places[ticket-1] = place{state: over}
	if x.state == got {
		return m.put(0, x.o)
	}
	return nil
}

func (m *model) close() error {
	if m.closed {
		return api.ErrNone
	}
	if len(m.users) > 0 || len(m.in(waits)) > 0 || len(m.in(got)) > 0 {
		return api.ErrHeld
	}
	for _, o := range m.reserve {
		if err := m.d.Give(0, o); err != nil {
			return err
		}
	}
	m.reserve, m.closed = nil, true
	return nil
}

// past gives to the depot what somebody has: the pool has lent it no more.
func (m *model) past(worker int, o api.Object) error {
	err := m.d.Give(worker, o)
	if err == nil && slices.Contains(m.users, o) {
		m.lost = append(m.lost, o)
	}
	if err == nil {
		m.users, m.others = without(m.users, o), without(m.others, o)
	}
	return err
}

// othersTake of the depot. If it is what the pool lent, and was given past it, the pool cannot tell who has it now.
func (m *model) othersTake(worker, node int) (api.Object, error) {
	o, err := m.d.Take(worker, node, true)
	switch {
	case err != nil:
	case slices.Contains(m.lost, o):
		m.users, m.lost = append(m.users, o), without(m.lost, o)
	default:
		m.others = append(m.others, o)
	}
	return o, err
}

func (m *model) sight() string {
	l := m.in(waits)
	s := fmt.Sprint(l, len(m.reserve))
	for range l {
		s += fmt.Sprint(api.Object{}, false, nil)
	}
	return s + depotSight(m.d)
}

// check that the reserve is empty where somebody waits (P63), and that each object is at one place.
func (m *model) check(t *testing.T) {
	t.Helper()
	if len(m.in(waits)) > 0 && len(m.reserve) > 0 {
		t.Fatalf("%+v", m)
	}
	l := slices.Concat(m.reserve, m.users, m.others)
	for _, ticket := range m.in(got) {
		l = append(l, m.places[ticket-1].o)
	}
	out := slices.DeleteFunc(m.d.Cache().Taken(), func(o api.Object) bool { return !m.d.Cache().Out(o) })
	if slices.SortFunc(l, byPlace); !slices.Equal(l, out) {
		t.Fatalf("%v, %v: %+v", l, out, m)
	}
}

func byPlace(a, b api.Object) int {
	return cmp.Or(cmp.Compare(a.Node, b.Node), cmp.Compare(a.At, b.At))
}

// call is one of a pool, or of its depot by others.
type call struct {
	kind         int
	worker, node int
	o            api.Object
	ticket       int
}

const (
	takes1 = iota
	gives
	readies
	cancels
	closes1
	othersTake
	givesPast
	drains
)

// makeCall makes it of a pool and of the model, and holds the answers against each other.
func makeCall(t *testing.T, d *magazine.Depot, p *pool.Pool, m *model, x call) {
	t.Helper()
	var is, want string
	switch x.kind {
	case takes1:
		o, err := p.Take(x.worker, x.node)
		q, e := m.take(x.worker, x.node)
		is, want = fmt.Sprint(o, err), fmt.Sprint(q, e)
	case gives:
		is, want = fmt.Sprint(p.Give(x.worker, x.o)), fmt.Sprint(m.give(x.worker, x.o))
	case readies:
		o, ok, err := p.Ready(x.ticket)
		q, k, e := m.ready(x.ticket)
		is, want = fmt.Sprint(o, ok, err), fmt.Sprint(q, k, e)
	case cancels:
		is, want = fmt.Sprint(p.Cancel(x.ticket)), fmt.Sprint(m.cancel(x.ticket))
	case closes1:
		is, want = fmt.Sprint(p.Close()), fmt.Sprint(m.close())
	case othersTake:
		o, err := d.Take(x.worker, x.node, true)
		q, e := m.othersTake(x.worker, x.node)
		is, want = fmt.Sprint(o, err), fmt.Sprint(q, e)
	case givesPast:
		is, want = fmt.Sprint(d.Give(x.worker, x.o)), fmt.Sprint(m.past(x.worker, x.o))
	case drains:
		n, err := d.Drain(x.worker)
		k, e := m.d.Drain(x.worker)
		is, want = fmt.Sprint(n, err, d.Empty()), fmt.Sprint(k, e, m.d.Empty())
	}
	if is != want {
		t.Fatalf("%+v: %s, want %s; %+v", x, is, want, m)
	}
}

// same holds all that can be told of a pool against the model.
func same(t *testing.T, d *magazine.Depot, p *pool.Pool, m *model) {
	t.Helper()
	if is, want := sight(d, p), m.sight(); is != want {
		t.Fatalf("%s, want %s; %+v", is, want, m)
	}
	m.check(t)
}

// everyCall is all that may be asked of a pool of few objects, and some that may not.
func everyCall(objects, workers, tickets int) []call {
	l := []call{{kind: closes1}, {kind: othersTake}, {kind: takes1, node: 1}, {kind: drains}}
	for worker := range workers + 1 {
		l = append(l, call{kind: takes1, worker: worker})
		for i := range objects + 1 {
			l = append(l, call{kind: gives, worker: worker, o: number(i)})
		}
	}
	for ticket := range tickets + 2 {
		l = append(l, call{kind: readies, ticket: ticket}, call{kind: cancels, ticket: ticket})
	}
	return l
}

// key is a state: in what order others have taken something makes none.
func (m *model) key() string {
	users := slices.SortedFunc(slices.Values(m.users), byPlace)
	return fmt.Sprint(m.reserve, users, m.places, m.closed, m.sight())
}

func TestAllStates(t *testing.T) { // P61, P62, P63: each state that few objects and tickets can come to, and each call there
	for _, x := range []struct{ objects, reserve, workers, tickets, least int }{
		{1, 1, 1, 6, 250},
		{2, 1, 2, 4, 300},
		{2, 2, 1, 5, 300},
		{3, 2, 1, 3, 300},
	} {
		seen := map[string]bool{}
		ways := [][]call{nil} // the calls that lead to a state: a pool has no copy
		for len(ways) > 0 {
			way := ways[0]
			ways = ways[1:]
			for _, last := range everyCall(x.objects, x.workers, x.tickets) {
				d := few(t, x.objects, x.workers)
				p, m := makePool(t, d, 0, x.reserve), newModel(t, few(t, x.objects, x.workers), 1, x.reserve)
				for i := x.objects; i < 8; i++ {
					m.others = append(m.others, number(i))
				}
				for _, y := range append(slices.Clone(way), last) {
					makeCall(t, d, p, m, y)
				}
				same(t, d, p, m)
				if key := m.key(); !seen[key] && len(m.places) <= x.tickets {
					seen[key] = true
					ways = append(ways, append(slices.Clone(way), last))
				}
			}
		}
		if len(seen) < x.least {
			t.Errorf("%+v: %d states only", x, len(seen))
		}
	}
}

// walker goes a long way over a pool.
type walker struct {
	d     *magazine.Depot
	p     *pool.Pool
	m     *model
	state uint32
}

func (w *walker) next(n int) int {
	w.state = w.state*1664525 + 1013904223
	return int(w.state>>8) % n
}

// pick an object that somebody has, most of the time; a ticket that is not at its end, most of the time.
func (w *walker) pick() (api.Object, int) {
	o, ticket := api.Object{At: w.next(200)}, w.next(len(w.m.places)+2)
	if l := w.m.d.Cache().Taken(); len(l) > 0 && w.next(8) == 0 {
		o = l[w.next(len(l))]
	} else if len(w.m.users) > 0 {
		o = w.m.users[w.next(len(w.m.users))]
	}
	if l := append(w.m.in(got), w.m.in(waits)...); len(l) > 0 && w.next(8) > 0 {
		ticket = l[w.next(len(l))]
	}
	return o, ticket
}

// call is one that is made where more is taken than given, or less.
func (w *walker) call(up bool, nodes int, past bool) call {
	x := call{worker: w.next(w.d.Workers()), node: w.next(nodes)}
	x.o, x.ticket = w.pick()
	switch k := w.next(100); {
	case k < 3:
		x.kind = othersTake
	case k < 8 && len(w.m.others) > 0:
		x.kind, x.o = givesPast, w.m.others[0]
	case k < 10 && past && len(w.m.users) > 0:
		x.kind, x.o = givesPast, w.m.users[0]
	case k < 12:
		x.kind = drains
	case k < 13 && len(w.m.users) > 0: // else the way would be at its end
		x.kind = closes1
	case k < 30:
		x.kind = readies
	case k < 36:
		x.kind = cancels
	case up == (k < 85):
		x.kind = takes1
	default:
		x.kind = gives
	}
	return x
}

// home leads back to the beginning.
func (w *walker) home(t *testing.T) {
	t.Helper()
	for _, ticket := range append(w.m.in(waits), w.m.in(got)...) {
		makeCall(t, w.d, w.p, w.m, call{kind: cancels, ticket: ticket})
	}
	for len(w.m.users) > 0 {
		makeCall(t, w.d, w.p, w.m, call{kind: gives, o: w.m.users[0]})
	}
	for len(w.m.others) > 0 {
		makeCall(t, w.d, w.p, w.m, call{kind: givesPast, o: w.m.others[0]})
	}
	same(t, w.d, w.p, w.m)
	makeCall(t, w.d, w.p, w.m, call{kind: closes1})
	for worker := range w.d.Workers() {
		makeCall(t, w.d, w.p, w.m, call{kind: drains, worker: worker})
	}
	same(t, w.d, w.p, w.m)
	if taken, _ := w.d.Cache().Count(); taken != 0 {
		t.Fatal(sight(w.d, w.p))
	}
}

func TestWalk(t *testing.T) { // P61, P62, P63: long ways, with others at the depot, also such as give to it what they had of the pool
	for i, x := range []struct {
		c                      zone.Config
		size, workers, reserve int
	}{
		{nodes(0, 1), 8, 1, 1},
		{nodes(1, 4), 20, 2, 3},
		{nodes(2, 5, 3), 30, 3, 4},
		{nodes(1, 2, 1, 4, 1), 33, 4, 2},
		{nodes(0, 2), 4, 2, 16},
		{nodes(3, 20), 64, 4, 12},
	} {
		for past := range 2 {
			d := depot(t, x.c, x.size, x.workers)
			w := &walker{d: d, p: makePool(t, d, 0, x.reserve), state: uint32(2*i + past)}
			w.m = newModel(t, depot(t, x.c, x.size, x.workers), len(x.c.Pages), x.reserve)
			most, many := 0, 0
			for step := range 3000 {
				makeCall(t, w.d, w.p, w.m, w.call(step/100%2 == 0, len(x.c.Pages), past == 1))
				same(t, w.d, w.p, w.m)
				most = max(most, len(w.m.in(waits)))
				many = max(many, len(w.m.in(got)))
			}
			if most < 8 || many < 2 {
				t.Errorf("%d: %d waited, %d had something", i, most, many)
			}
			w.home(t)
		}
	}
}

func TestSameAnswers(t *testing.T) { // P2: the same calls, the same answers, of each of two that stand side by side
	tell := func() func() string {
		d := depot(t, nodes(1, 3, 2), 21, 3)
		p := makePool(t, d, 1, 3)
		i := 0
		return func() string {
			i++
			o, err := p.Take(i%3, i%2)
			s := fmt.Sprint(o, err)
			if taken := d.Cache().Taken(); i%4 > 0 {
				s += fmt.Sprint(p.Give(i%2, taken[i*7%len(taken)]))
			}
			if i%3 == 0 {
				o, ok, err := p.Ready(i / 5)
				s += fmt.Sprint(o, ok, err, p.Cancel(i/7))
			}
			return s + sight(d, p)
		}
	}
	a, b := tell(), tell()
	for range 300 {
		if x, y := a(), b(); x != y {
			t.Fatal(x, y)
		}
	}
}
