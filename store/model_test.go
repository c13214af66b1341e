package store_test

import (
	"fmt"
	"slices"
	"strings"
	"testing"

	"slabyard/api"
	"slabyard/magazine"
	"slabyard/pool"
)

// model is what a store ought to be: over a pool of its own, of which the same is asked.
type model struct {
	d      *magazine.Depot
	p      *pool.Pool
	plan   plan
	size   int
	blocks []block      // all that there ever were
	others []api.Object // who took it of the pool itself has it
	asked  int          // tickets there ever were
}

// block that there was: without holders it is gone.
type block struct {
	o       api.Object
	bytes   string
	holders int
}

func newModel(t *testing.T, x plan, size int) *model {
	t.Helper()
	d, p := makePool(t, x)
	return &model{d: d, p: p, plan: x, size: size}
}

// at finds a block that is there.
func (m *model) at(id int) *block {
	if id < 1 || id > len(m.blocks) || m.blocks[id-1].holders == 0 {
		return nil
	}
	return &m.blocks[id-1]
}

func (m *model) take(worker, node int) (int, error) {
	o, err := m.p.Take(worker, node)
	if err == api.ErrWait {
		m.asked++
		err = m.p.Cancel(m.asked)
		if err == nil {
			err = api.ErrWait
		}
	}
	if err != nil {
		return 0, err
	}
	m.blocks = append(m.blocks, block{o, strings.Repeat("\x00", m.size), 1})
	return len(m.blocks), nil
}

func (m *model) hold(id int) error {
	b := m.at(id)
	switch {
	case b == nil:
		return api.ErrNone
	case b.holders == 16:
		return api.ErrMany
	}
	b.holders++
	return nil
}

func (m *model) drop(worker, id int) error {
	b := m.at(id)
	switch {
	case b == nil:
		return api.ErrNone
	case worker < 0 || worker >= m.plan.workers:
		return api.ErrBound
	}
	b.holders--
	if b.holders == 0 {
		return m.p.Give(worker, b.o)
	}
	return nil
}

// has tells by counting whether each of n bytes from at on is one of a block.
func (m *model) has(at, n int) bool {
	if at < 0 || at > m.size || n < 0 || n > m.size {
		return false
	}
	for i := range n {
		if at+i >= m.size {
			return false
		}
	}
	return true
}

func (m *model) read(id, at, n int) (string, error) {
	b := m.at(id)
	switch {
	case b == nil:
		return "", api.ErrNone
	case !m.has(at, n):
		return "", api.ErrBound
	}
	return b.bytes[at:][:n], nil
}

func (m *model) write(id, at int, text string) error {
	b := m.at(id)
	switch {
	case b == nil:
		return api.ErrNone
	case !m.has(at, len(text)):
		return api.ErrBound
	case b.holders > 1:
		return api.ErrHeld
	}
	b.bytes = b.bytes[:at] + text + b.bytes[at+len(text):]
	return nil
}

func (m *model) own(worker, node, id int) (int, error) {
	b := m.at(id)
	if b == nil {
		return 0, api.ErrNone
	}
	if b.holders == 1 {
		return id, nil
	}
	k, err := m.take(worker, node)
	if err != nil {
		return 0, err
	}
	b = m.at(id)
	b.holders--
	m.at(k).bytes = b.bytes
	return k, nil
}

// othersTake of the pool: who finds nothing waits.
func (m *model) othersTake(worker, node int) (api.Object, error) {
	o, err := m.p.Take(worker, node)
	if err == api.ErrWait {
		m.asked++
	}
	if err == nil {
		m.others = append(m.others, o)
	}
	return o, err
}

// othersGive what they took first.
func (m *model) othersGive(worker int) (api.Object, error) {
	o := m.others[0]
	err := m.p.Give(worker, o)
	if err == nil {
		m.others = m.others[1:]
	}
	return o, err
}

// othersFetch what they have got who waited.
func (m *model) othersFetch(ticket int) (api.Object, bool, error) {
	o, ok, err := m.p.Ready(ticket)
	if ok {
		m.others = append(m.others, o)
	}
	return o, ok, err
}

// there lists the numbers of the blocks that are there.
func (m *model) there() []int {
	var l []int
	for i, b := range m.blocks {
		if b.holders > 0 {
			l = append(l, i+1)
		}
	}
	return l
}

func (m *model) sight() string {
	l := m.there()
	s := fmt.Sprint(m.size, len(l), l)
	for _, id := range l {
		b := m.at(id)
		s += fmt.Sprintf("%q %v %v %v", b.bytes, nil, b.holders, nil)
	}
	return s + ground(m.d, m.p)
}

// call is one of a store, or of its pool by others.
type call struct {
	kind         int
	worker, node int
	id, at, n    int
	text         string
	ticket       int
}

const (
	takes = iota
	holds
	drops
	reads
	writes
	owns
	othersTake
	othersGive
	othersFetch
	othersCancel
)

// makeCall makes it of a rig and of the model, and holds the answers against each other.
func makeCall(t *testing.T, x rig, m *model, c call) {
	t.Helper()
	var is, want string
	switch c.kind {
	case takes:
		id, err := x.s.Take(c.worker, c.node)
		k, e := m.take(c.worker, c.node)
		is, want = fmt.Sprint(id, err), fmt.Sprint(k, e)
	case holds:
		is, want = fmt.Sprint(x.s.Hold(c.id)), fmt.Sprint(m.hold(c.id))
	case drops:
		is, want = fmt.Sprint(x.s.Drop(c.worker, c.id)), fmt.Sprint(m.drop(c.worker, c.id))
	case reads:
		b, err := x.s.Read(c.id, c.at, c.n)
		v, e := m.read(c.id, c.at, c.n)
		is, want = fmt.Sprintf("%q %v", b, err), fmt.Sprintf("%q %v", v, e)
	case writes:
		is, want = fmt.Sprint(x.s.Write(c.id, c.at, c.text)), fmt.Sprint(m.write(c.id, c.at, c.text))
	case owns:
		id, err := x.s.Own(c.worker, c.node, c.id)
		k, e := m.own(c.worker, c.node, c.id)
		is, want = fmt.Sprint(id, err), fmt.Sprint(k, e)
	default:
		is, want = othersCall(x, m, c)
	}
	if is != want {
		t.Fatalf("%+v: %s, want %s; %+v", c, is, want, m)
	}
}

// othersCall makes one of the pool.
func othersCall(x rig, m *model, c call) (string, string) {
	switch {
	case c.kind == othersTake:
		o, err := x.p.Take(c.worker, c.node)
		q, e := m.othersTake(c.worker, c.node)
		return fmt.Sprint(o, err), fmt.Sprint(q, e)
	case c.kind == othersGive && len(m.others) > 0:
		o, e := m.othersGive(c.worker)
		return fmt.Sprint(x.p.Give(c.worker, o)), fmt.Sprint(e)
	case c.kind == othersFetch:
		o, ok, err := x.p.Ready(c.ticket)
		q, k, e := m.othersFetch(c.ticket)
		return fmt.Sprint(o, ok, err), fmt.Sprint(q, k, e)
	case c.kind == othersCancel:
		return fmt.Sprint(x.p.Cancel(c.ticket)), fmt.Sprint(m.p.Cancel(c.ticket))
	}
	return "", ""
}

// same holds all that can be told of a rig against the model; each object of a block is with it alone.
func same(t *testing.T, x rig, m *model) {
	t.Helper()
	if is, want := x.sight(), m.sight(); is != want {
		t.Fatalf("%s, want %s; %+v", is, want, m)
	}
	seen := map[api.Object]bool{}
	for _, id := range m.there() {
		if o := m.at(id).o; seen[o] || !m.d.Cache().Out(o) {
			t.Fatalf("%v: %+v", o, m)
		} else {
			seen[o] = true
		}
	}
}

// unwritten holds that no call but Write to a block which one holds changes the bytes of a block (P73).
func unwritten(t *testing.T, x rig, m *model, c call) {
	t.Helper()
	before := map[int]string{}
	for _, id := range x.s.IDs() {
		n, _ := x.s.Holders(id)
		if n > 1 || c.kind != writes || id != c.id {
			before[id], _ = x.s.Read(id, 0, x.s.Size())
		}
	}
	makeCall(t, x, m, c)
	for id, want := range before {
		if b, err := x.s.Read(id, 0, x.s.Size()); err == nil && b != want {
			t.Fatalf("%+v: %d was %q, is %q", c, id, want, b)
		}
	}
}

// everyCall is all that may be asked of a store of few blocks, and some that may not.
func everyCall(workers, size, ids, tickets int, texts []string) []call {
	l := []call{{kind: takes, node: 1}, {kind: othersTake}}
	for worker := range workers + 1 {
		l = append(l, call{kind: takes, worker: worker}, call{kind: othersGive, worker: min(worker, workers-1)})
		for id := range ids + 2 {
			l = append(l, call{kind: drops, worker: worker, id: id}, call{kind: owns, worker: worker, id: id})
		}
	}
	for id := range ids + 2 {
		l = append(l, call{kind: holds, id: id}, call{kind: reads, id: id, n: size}, call{kind: reads, id: id, at: 1, n: size})
		for at := range size + 1 {
			for _, text := range texts {
				l = append(l, call{kind: writes, id: id, at: at, text: text})
			}
		}
	}
	for ticket := 1; ticket <= tickets; ticket++ {
		l = append(l, call{kind: othersFetch, ticket: ticket}, call{kind: othersCancel, ticket: ticket})
	}
	return l
}

// most is the greatest number of holders.
func (m *model) most() int {
	n := 0
	for _, b := range m.blocks {
		n = max(n, b.holders)
	}
	return n
}

func TestAllStates(t *testing.T) { // P70, P71, P73: each state that few blocks, holders and tickets can come to, and each call there
	for _, c := range []struct {
		x                         plan
		size, ids, holders, asked int
		texts                     []string
		least                     int
	}{
		{plan{[]int{1}, 0, 64, 1, 1}, 1, 2, 16, 1, []string{"", "a"}, 300},
		{plan{[]int{2}, 0, 64, 1, 1}, 2, 2, 2, 0, []string{"", "cd"}, 200},
		{plan{[]int{2}, 0, 64, 2, 1}, 1, 2, 2, 1, []string{"b"}, 700},
		{plan{[]int{3}, 0, 64, 1, 1}, 1, 3, 2, 0, nil, 1500},
	} {
		seen := map[string]bool{}
		ways := [][]call{nil} // the calls that lead to a state: a store has no copy
		for len(ways) > 0 {
			way := ways[0]
			ways = ways[1:]
			for _, last := range everyCall(c.x.workers, c.size, c.ids, c.asked, c.texts) {
				x, m := build(t, c.x, c.size), newModel(t, c.x, c.size)
				for _, y := range way {
					makeCall(t, x, m, y)
				}
				unwritten(t, x, m, last)
				same(t, x, m)
				key := fmt.Sprint(m.blocks, m.others, m.asked, m.sight())
				if !seen[key] && len(m.blocks) <= c.ids && m.most() <= c.holders && m.asked <= c.asked {
					seen[key] = true
					ways = append(ways, append(slices.Clone(way), last))
				}
			}
		}
		if len(seen) < c.least {
			t.Errorf("%+v: %d states only", c, len(seen))
		}
	}
}

// walker goes a long way over a store.
type walker struct {
	x     rig
	m     *model
	state uint32
}

func (w *walker) next(n int) int {
	w.state = w.state*1664525 + 1013904223
	return int(w.state>>8) % n
}

// id is one of a block that is there, most of the time; one of those with most holders, often.
func (w *walker) id() int {
	l := w.m.there()
	if len(l) == 0 || w.next(20) == 0 {
		return w.next(len(w.m.blocks)+3) - 1
	}
	if w.next(3) == 0 {
		return l[0]
	}
	return l[w.next(len(l))]
}

// text of so many bytes, of all kinds.
func (w *walker) text(n int) string {
	b := make([]byte, n)
	for i := range b {
		b[i] = byte(w.next(256))
	}
	return string(b)
}

// call is one that is made where more is taken than dropped, or less.
func (w *walker) call(up bool) call {
	size := w.m.size
	c := call{worker: w.next(w.m.plan.workers), node: w.next(len(w.m.plan.pages)), id: w.id()}
	c.at = w.next(size+3) - 1
	c.n = w.next(size+3) - 1
	if w.next(4) > 0 { // such as a block has
		c.at = w.next(size + 1)
		c.n = w.next(size - c.at + 1)
	}
	c.text = w.text(max(0, c.n))
	c.ticket = w.m.asked - w.next(10)
	switch w.next(40) {
	case 0:
		c.worker = 4
	case 1:
		c.node = -1
	}
	switch k := w.next(100); {
	case k < 15:
		c.kind = writes
	case k < 20:
		c.kind = reads
	case k < 35:
		c.kind = owns
	case k < 38:
		c.kind = othersTake
	case k < 42:
		c.kind = othersGive
	case k < 46:
		c.kind = othersFetch
	case k < 48:
		c.kind = othersCancel
	case up && k < 72:
		c.kind = takes
	case up && k < 94:
		c.kind = holds
	case k < 52:
		c.kind = takes
	case k < 58:
		c.kind = holds
	default:
		c.kind = drops
	}
	return c
}

// home leads back to the beginning.
func (w *walker) home(t *testing.T) {
	t.Helper()
	for ticket := range w.m.asked + 1 {
		makeCall(t, w.x, w.m, call{kind: othersCancel, ticket: ticket})
	}
	for len(w.m.others) > 0 {
		makeCall(t, w.x, w.m, call{kind: othersGive})
	}
	for len(w.m.there()) > 0 {
		makeCall(t, w.x, w.m, call{kind: drops, id: w.m.there()[0]})
		same(t, w.x, w.m)
	}
	if err := w.x.p.Close(); err != nil || w.x.out() != 0 {
		t.Fatal(err, w.x.sight())
	}
}

func TestWalk(t *testing.T) { // P70, P71, P72, P73: long ways, with others at the pool
	for i, c := range []struct {
		x    plan
		size int
	}{
		{plan{[]int{1}, 0, 16, 1, 1}, 16},
		{plan{[]int{4}, 1, 20, 2, 3}, 3},
		{plan{[]int{5, 3}, 2, 30, 3, 4}, 64},
		{plan{[]int{2, 1, 4, 1}, 1, 33, 4, 2}, 33},
		{plan{[]int{2}, 0, 4, 2, 16}, 1},
		{plan{[]int{20}, 3, 64, 4, 12}, 7},
	} {
		w := &walker{x: build(t, c.x, c.size), m: newModel(t, c.x, c.size), state: uint32(i)}
		most, waited, blocks := 0, 0, 0
		for step := range 4000 {
			unwritten(t, w.x, w.m, w.call(step/300%2 == 0))
			same(t, w.x, w.m)
			most = max(most, w.m.most())
			waited = max(waited, len(w.x.p.Waiting()))
			blocks = max(blocks, len(w.m.there()))
		}
		if most < 16 || waited < 3 || blocks < 3 {
			t.Errorf("%d: %d held, %d waited, %d blocks", i, most, waited, blocks)
		}
		w.home(t)
	}
}

func TestSameAnswers(t *testing.T) { // P2: the same calls, the same answers, of each of two that stand side by side
	tell := func() func() string {
		x := build(t, plan{[]int{3, 2}, 1, 21, 3, 3}, 5)
		i := 0
		return func() string {
			i++
			id, e1 := x.s.Take(i%3, i%2)
			s := fmt.Sprint(id, e1)
			l := x.s.IDs()
			id = l[i*7%len(l)]
			e2 := x.s.Write(id, i%5, fmt.Sprint(i%10))
			own, e3 := x.s.Own(i%2, i%2, id)
			s += fmt.Sprint(e2, own, e3, x.s.Hold(l[0]))
			if i%3 > 0 {
				s += fmt.Sprint(x.s.Drop(i%3, id), x.s.Drop(0, l[len(l)-1]))
			}
			return s + x.sight()
		}
	}
	a, b := tell(), tell()
	for range 300 {
		if x, y := a(), b(); x != y {
			t.Fatal(x, y)
		}
	}
}
