package buffer_test

import (
	"fmt"
	"slices"
	"strings"
	"sync"
	"testing"

	"slabyard/api"
	"slabyard/buffer"
	"slabyard/magazine"
	"slabyard/pool"
	"slabyard/store"
)

// model is what a yard ought to be: over a store of its own, of which the same is asked. It keeps the bytes of each buffer beside
// those of the store, and where each byte stands.
type model struct {
	d       *magazine.Depot
	p       *pool.Pool
	s       *store.Store
	plan    plan
	buffers []row // all that there ever were
	parts   int   // that there ever were
	holds   []int // blocks that others hold
	objects []api.Object
	asked   []int // tickets of others
	tickets int   // that the pool has given
	last    int   // number of a block that was given
}

// row of bytes of a buffer: each stands in its cell.
type row struct {
	gone  bool
	text  string
	cells []cell
}

// cell of a byte: of which part it is, and where in which block.
type cell struct{ part, block, at int }

func newModel(t *testing.T, x plan) *model {
	t.Helper()
	r := build(t, x)
	return &model{d: r.d, p: r.p, s: r.s, plan: x}
}

// at finds a buffer that is there.
func (m *model) at(id int) *row {
	if id < 1 || id > len(m.buffers) || m.buffers[id-1].gone {
		return nil
	}
	return &m.buffers[id-1]
}

// there lists the numbers of the buffers that are there.
func (m *model) there() []int {
	var l []int
	for i, r := range m.buffers {
		if !r.gone {
			l = append(l, i+1)
		}
	}
	return l
}

// runs are the cells of a row, each part for itself.
func runs(l []cell) [][]cell {
	var out [][]cell
	for i, c := range l {
		if i == 0 || c.part != l[i-1].part {
			out = append(out, nil)
		}
		out[len(out)-1] = append(out[len(out)-1], c)
	}
	return out
}

// anew gives the parts of cells new numbers: who holds them is somebody else.
func (m *model) anew(l []cell) []cell {
	var out []cell
	for _, run := range runs(l) {
		m.parts++
		for _, c := range run {
			out = append(out, cell{m.parts, c.block, c.at})
		}
	}
	return out
}

func (m *model) add(text string, l []cell) int {
	m.buffers = append(m.buffers, row{text: text, cells: l})
	return len(m.buffers)
}

func (m *model) take(w buffer.Who) (int, error) {
	id, err := m.s.Take(w.Worker, w.Node)
	m.count(id, err)
	return id, err
}

// count what a call used up that took of the store, or wanted to.
func (m *model) count(id int, err error) {
	m.last = max(m.last, id)
	if err == api.ErrWait {
		m.tickets++
	}
}

func (m *model) make(w buffer.Who, text string) (int, error) {
	size := m.plan.size
	switch {
	case len(text) > 600:
		return 0, api.ErrBound
	case len(m.there()) == 40:
		return 0, api.ErrFull
	case (len(text)+size-1)/size > 12:
		return 0, api.ErrMany
	}
	var l []cell
	for i := range len(text) {
		if i%size == 0 {
			id, err := m.take(w)
			if err != nil {
				for _, run := range runs(l) {
					m.s.Drop(w.Worker, run[0].block)
				}
				return 0, err
			}
			m.parts++
			l = append(l, cell{m.parts, id, 0})
		} else {
			c := l[i-1]
			l = append(l, cell{c.part, c.block, c.at + 1})
		}
		m.s.Write(l[i].block, l[i].at, text[i:i+1])
	}
	return m.add(text, l), nil
}

// has tells whether a row has bytes from at up to the end.
func (r *row) has(at, n int) bool {
	return at >= 0 && at <= len(r.text) && n >= 0 && n <= len(r.text) && at+n <= len(r.text)
}

func (m *model) read(id, at, n int) (string, error) {
	r := m.at(id)
	switch {
	case r == nil:
		return "", api.ErrStale
	case !r.has(at, n):
		return "", api.ErrBound
	}
	return r.text[at:][:n], nil
}

func (m *model) none(w buffer.Who) bool { return w.Worker < 0 || w.Worker >= m.plan.workers }

func (m *model) free(w buffer.Who, id int) error {
	r := m.at(id)
	switch {
	case r == nil:
		return api.ErrStale
	case m.none(w):
		return api.ErrBound
	}
	for _, run := range runs(r.cells) {
		m.s.Drop(w.Worker, run[0].block)
	}
	*r = row{gone: true}
	return nil
}

// hold each part's block: all, or none.
func (m *model) hold(l [][]cell) error {
	more := map[int]int{}
	for _, run := range l {
		more[run[0].block]++
	}
	for block, n := range more {
		if had, err := m.s.Holders(block); err != nil || had+n > 16 {
			return api.ErrMany
		}
	}
	for _, run := range l {
		m.s.Hold(run[0].block)
	}
	return nil
}

func (m *model) clone(id, at, n int) (int, error) {
	r := m.at(id)
	switch {
	case r == nil:
		return 0, api.ErrStale
	case !r.has(at, n):
		return 0, api.ErrBound
	case len(m.there()) == 40:
		return 0, api.ErrFull
	}
	l := r.cells[at : at+n]
	if err := m.hold(runs(l)); err != nil {
		return 0, err
	}
	return m.add(r.text[at:at+n], m.anew(l)), nil
}

func (m *model) join(a, b int) error {
	x, y := m.at(a), m.at(b)
	switch {
	case x == nil || y == nil:
		return api.ErrStale
	case a == b:
		return api.ErrHeld
	case len(x.text)+len(y.text) > 600:
		return api.ErrBound
	case len(runs(x.cells))+len(runs(y.cells)) > 12:
		return api.ErrMany
	}
	x.text += y.text
	x.cells = slices.Concat(x.cells, y.cells)
	*y = row{gone: true}
	return nil
}

func (m *model) split(id, at int) (int, error) {
	r := m.at(id)
	switch {
	case r == nil:
		return 0, api.ErrStale
	case at < 0 || at > len(r.text):
		return 0, api.ErrBound
	case len(m.there()) == 40:
		return 0, api.ErrFull
	}
	low, high := r.cells[:at], r.cells[at:]
	if at > 0 && len(high) > 0 && low[at-1].part == high[0].part {
		if err := m.hold([][]cell{high}); err != nil {
			return 0, err
		}
	}
	k := m.add(r.text[at:], m.anew(high))
	r = m.at(id)
	r.text, r.cells = r.text[:at], slices.Clone(low)
	return k, nil
}

func (m *model) write(w buffer.Who, id, at int, text string) error {
	r := m.at(id)
	switch {
	case r == nil:
		return api.ErrStale
	case !r.has(at, len(text)):
		return api.ErrBound
	}
	for _, run := range runs(r.cells[at : at+len(text)]) {
		block, err := m.s.Own(w.Worker, w.Node, run[0].block)
		m.count(block, err)
		if err != nil {
			return err
		}
		for i, c := range r.cells {
			if c.part == run[0].part {
				r.cells[i].block = block
			}
		}
	}
	for i := range len(text) {
		c := r.cells[at+i]
		m.s.Write(c.block, c.at, text[i:i+1])
	}
	r.text = r.text[:at] + text + r.text[at+len(text):]
	return nil
}

func (m *model) pull(w buffer.Who, id, n int) error {
	r := m.at(id)
	switch {
	case r == nil:
		return api.ErrStale
	case n < 0 || n > len(r.text) || m.none(w):
		return api.ErrBound
	}
	for _, run := range runs(r.cells) {
		last := run[len(run)-1]
		if !slices.Contains(r.cells[n:], last) {
			m.s.Drop(w.Worker, run[0].block)
		}
	}
	r.text, r.cells = r.text[n:], slices.Clone(r.cells[n:])
	return nil
}

func (m *model) sight() string {
	l := m.there()
	s := fmt.Sprint(l)
	for _, id := range l {
		r := m.at(id)
		s += fmt.Sprintf("; %d %v %d %v %q %v", len(r.text), nil, len(runs(r.cells)), nil, r.text, nil)
	}
	return s + "; " + ground(m.d, m.p, m.s)
}

// call is one of a yard, or of its store, or of its pool, by others.
type call struct {
	kind  int
	w     buffer.Who
	id    int
	other int
	at, n int
	text  string
}

const (
	makes = iota
	reads
	frees
	clones
	joins
	splits
	writes
	pulls
	othersHold
	othersDrop
	othersTake
	othersAsk
	othersGive
	othersFetch
)

// makeCall makes it of a rig and of the model, and holds the answers against each other.
func makeCall(t *testing.T, x rig, m *model, c call) string {
	t.Helper()
	var is, want string
	two := func(id int, err error) string { return fmt.Sprint(id, err) }
	switch c.kind {
	case makes:
		is, want = two(x.y.Make(c.w, c.text)), two(m.make(c.w, c.text))
	case reads:
		b, err := x.y.Read(c.id, c.at, c.n)
		v, e := m.read(c.id, c.at, c.n)
		is, want = fmt.Sprintf("%q %v", b, err), fmt.Sprintf("%q %v", v, e)
	case frees:
		is, want = fmt.Sprint(x.y.Free(c.w, c.id)), fmt.Sprint(m.free(c.w, c.id))
	case clones:
		is, want = two(x.y.Clone(c.id, c.at, c.n)), two(m.clone(c.id, c.at, c.n))
	case joins:
		is, want = fmt.Sprint(x.y.Join(c.id, c.other)), fmt.Sprint(m.join(c.id, c.other))
	case splits:
		is, want = two(x.y.Split(c.id, c.at)), two(m.split(c.id, c.at))
	case writes:
		is, want = fmt.Sprint(x.y.Write(c.w, c.id, c.at, c.text)), fmt.Sprint(m.write(c.w, c.id, c.at, c.text))
	case pulls:
		is, want = fmt.Sprint(x.y.Pull(c.w, c.id, c.n)), fmt.Sprint(m.pull(c.w, c.id, c.n))
	default:
		is, want = othersCall(x, m, c)
	}
	if is != want {
		t.Fatalf("%+v: %s, want %s; %+v", c, is, want, m)
	}
	return is
}

// othersCall makes one past the yard: others hold, and drop what they hold; or take of the pool, wait there, and give back.
func othersCall(x rig, m *model, c call) (string, string) {
	switch {
	case c.kind == othersHold:
		err := m.s.Hold(c.other)
		if err == nil {
			m.holds = append(m.holds, c.other)
		}
		return fmt.Sprint(x.s.Hold(c.other)), fmt.Sprint(err)
	case c.kind == othersDrop && len(m.holds) > 0:
		id := m.holds[0]
		m.holds = m.holds[1:]
		return fmt.Sprint(x.s.Drop(0, id)), fmt.Sprint(m.s.Drop(0, id))
	case c.kind == othersTake:
		id, err := m.take(c.w)
		if err == nil {
			m.holds = append(m.holds, id)
		}
		k, e := x.s.Take(c.w.Worker, c.w.Node)
		return fmt.Sprint(k, e), fmt.Sprint(id, err)
	case c.kind == othersAsk:
		o, err := m.p.Take(0, 0)
		switch err {
		case nil:
			m.objects = append(m.objects, o)
		case api.ErrWait:
			m.tickets++
			m.asked = append(m.asked, m.tickets)
		}
		q, e := x.p.Take(0, 0)
		return fmt.Sprint(q, e), fmt.Sprint(o, err)
	case c.kind == othersGive && len(m.objects) > 0:
		o := m.objects[0]
		m.objects = m.objects[1:]
		return fmt.Sprint(x.p.Give(0, o)), fmt.Sprint(m.p.Give(0, o))
	case c.kind == othersFetch && len(m.asked) > 0:
		o, ok, err := m.p.Ready(m.asked[0])
		q, k, e := x.p.Ready(m.asked[0])
		if ok {
			m.objects = append(m.objects, o)
			m.asked = m.asked[1:]
		}
		return fmt.Sprint(q, k, e), fmt.Sprint(o, ok, err)
	}
	return "", ""
}

// same holds all that can be told of a rig against the model. Each block is held by the parts of it, and by others, and by nobody else.
func same(t *testing.T, x rig, m *model) {
	t.Helper()
	if is, want := x.sight(), m.sight(); is != want {
		t.Fatalf("%s, want %s; %+v", is, want, m)
	}
	holders := map[int]int{}
	for _, id := range m.there() {
		for _, run := range runs(m.at(id).cells) {
			holders[run[0].block]++
		}
	}
	for _, block := range m.holds {
		holders[block]++
	}
	if x.s.Count() != len(holders) {
		t.Fatalf("%v: %+v", x.s.IDs(), m)
	}
	for block, want := range holders {
		if n, err := x.s.Holders(block); n != want || err != nil {
			t.Fatalf("%d: %d, %v, want %d; %+v", block, n, err, want, m)
		}
	}
}

// unseen holds that a call changes the bytes of no buffer but those that it names (P85).
func unseen(t *testing.T, x rig, m *model, c call) string {
	t.Helper()
	before := map[int]string{}
	for _, id := range x.y.IDs() {
		if id != c.id && (c.kind != joins || id != c.other) {
			n, _ := x.y.Len(id)
			before[id], _ = x.y.Read(id, 0, n)
		}
	}
	is := makeCall(t, x, m, c)
	for id, want := range before {
		n, e1 := x.y.Len(id)
		if b, e2 := x.y.Read(id, 0, n); b != want || e1 != nil || e2 != nil {
			t.Fatalf("%+v: %d was %q, is %q, %v, %v", c, id, want, b, e1, e2)
		}
	}
	return is
}

// everyCall is all that may be asked of a yard of few buffers, and some that may not.
func everyCall(workers, size, ids int) []call {
	l := []call{{kind: othersTake}, {kind: othersDrop}}
	for worker := range workers + 1 {
		w := buffer.Who{Worker: worker}
		for n := range 2*size + 2 {
			l = append(l, call{kind: makes, w: w, text: letters(n)})
		}
		for id := range ids + 2 {
			l = append(l, call{kind: frees, w: w, id: id})
			for n := range 2*size + 2 {
				l = append(l, call{kind: pulls, w: w, id: id, n: n})
				for _, text := range []string{"A", "BC", "DEF"} {
					l = append(l, call{kind: writes, w: w, id: id, at: n, text: text})
				}
			}
		}
	}
	for id := range ids + 2 {
		l = append(l, call{kind: othersHold, other: id})
		for other := range ids + 2 {
			l = append(l, call{kind: joins, id: id, other: other})
		}
		for at := range 2*size + 2 {
			l = append(l, call{kind: splits, id: id, at: at})
			l = append(l, call{kind: reads, id: id, at: at, n: size})
			for n := range 2*size + 2 {
				l = append(l, call{kind: clones, id: id, at: at, n: n})
			}
		}
	}
	return l
}

// most is the greatest number of holders.
func (m *model) most() int {
	most := 0
	for _, id := range m.s.IDs() {
		n, _ := m.s.Holders(id)
		most = max(most, n)
	}
	return most
}

// follow makes calls of a new rig, and of a new model.
func follow(t *testing.T, x plan, way []call) (rig, *model) {
	t.Helper()
	r, m := build(t, x), newModel(t, x)
	for _, c := range way {
		makeCall(t, r, m, c)
	}
	return r, m
}

func TestAllStates(t *testing.T) { // P81, P82, P83, P85: each state that few buffers and blocks can come to, and each call there
	for _, c := range []states{
		{plan{[]int{2}, 0, 64, 1, 1, 2}, 2, 3, 3, 0, 500},
		{plan{[]int{1}, 0, 16, 1, 1, 2}, 2, 3, 2, 0, 1200},
		{plan{[]int{3}, 0, 64, 2, 1, 1}, 2, 3, 2, 1, 800},
		{plan{[]int{2}, 0, 64, 1, 1, 1}, 3, 2, 2, 1, 700},
	} {
		t.Run(fmt.Sprintf("%+v", c.x), func(t *testing.T) {
			t.Parallel()
			if n := c.goThrough(t); n < c.least {
				t.Errorf("%+v: %d states only", c, n)
			}
		})
	}
}

// states of a yard: those with so many buffers and blocks that there ever were, holders of a block, and holders past the yard.
type states struct {
	x                            plan
	ids, blocks, holders, others int
	least                        int
}

// goThrough all states, and make each call in each.
func (c states) goThrough(t *testing.T) int {
	seen := map[string]bool{}
	ways := [][]call{nil} // the calls that lead to a state: a yard has no copy
	for len(ways) > 0 {
		way := ways[0]
		ways = ways[1:]
		x, m := follow(t, c.x, way)
		here := m.shape()
		for _, last := range everyCall(c.x.workers, c.x.size, c.ids) {
			unseen(t, x, m, last)
			same(t, x, m)
			key := m.shape()
			if !seen[key] && len(m.buffers) <= c.ids && m.last <= c.blocks && m.most() <= c.holders && len(m.holds) <= c.others {
				seen[key] = true
				ways = append(ways, append(slices.Clone(way), last))
			}
			if key != here {
				x, m = follow(t, c.x, way)
			}
		}
	}
	return len(seen)
}

// shape is all of a model but the bytes: no call's way hangs on those.
func (m *model) shape() string {
	workers, pile := m.d.Held()
	s := fmt.Sprint(m.last, m.holds, workers, pile, m.p.Reserve(), m.d.Cache().Slabs(), m.d.Cache().Taken(), m.s.IDs())
	for _, r := range m.buffers {
		s += fmt.Sprint("; ", r.gone)
		for _, run := range runs(r.cells) {
			s += fmt.Sprint(" ", run[0].block, run[0].at, len(run))
		}
	}
	return s
}

// walker goes a long way over a yard.
type walker struct {
	x     rig
	m     *model
	state uint32
}

func (w *walker) next(n int) int {
	w.state = w.state*1664525 + 1013904223
	return int(w.state>>8) % n
}

// id is one of a buffer that is there, most of the time; one of those that have some bytes, often.
func (w *walker) id() int {
	l := w.m.there()
	if len(l) == 0 || w.next(30) == 0 {
		return w.next(len(w.m.buffers)+3) - 1
	}
	id := l[w.next(len(l))]
	for range w.next(10) {
		if w.m.at(id).text == "" {
			id = l[w.next(len(l))]
		}
	}
	return id
}

// text of so many bytes, of all kinds.
func (w *walker) text(n int) string {
	b := make([]byte, n)
	for i := range b {
		b[i] = byte(w.next(256))
	}
	return string(b)
}

// piece is one that a buffer has, most of the time.
func (w *walker) piece(id int) (at, n int) {
	size := 0
	if r := w.m.at(id); r != nil {
		size = len(r.text)
	}
	at = w.next(size + 1)
	n = w.next(size - at + 1)
	switch w.next(20) {
	case 0:
		at = w.next(size+4) - 2
	case 1:
		n = max(0, w.next(size+4)-2)
	case 2, 3, 4, 5, 6:
		at, n = 0, size
	}
	return at, n
}

// Seasons of a way: there is more made than let go, more cloned and joined, or more let go.
const (
	making = iota
	sharing
	leaving
	seasons
)

// call is one of a season.
func (w *walker) call(season int) call {
	c := call{w: buffer.Who{Worker: w.next(w.m.plan.workers), Node: w.next(len(w.m.plan.pages))}, id: w.id(), other: w.id()}
	c.at, c.n = w.piece(c.id)
	switch w.next(40) {
	case 0:
		c.w.Worker = 4
	case 1:
		c.w.Node = -1
	}
	switch k := w.next(100); {
	case k < 3:
		c.kind = reads
	case k < 8:
		w.others(&c)
	case k < 13, season != sharing && k < 30:
		c.kind, c.text = writes, w.text(c.n)
	case k < 35:
		c.kind = joins
	case k < 43:
		c.kind = splits
	case k < 50, season == leaving && k < 65:
		c.kind, c.n = pulls, c.at
	case k < 54, season == making && k < 85:
		c.kind, c.text = makes, w.text(w.next(min(4, 1+w.next(14))*w.m.plan.size+1))
		if w.next(10) == 0 {
			c.text = w.text(w.next(630))
		}
	case season != leaving && k < 97, k < 60:
		c.kind = clones
	default:
		c.kind = frees
	}
	return c
}

// others do something past the yard.
func (w *walker) others(c *call) {
	c.kind = othersHold + w.next(6)
	if l := w.m.s.IDs(); len(l) > 0 {
		c.other = l[w.next(len(l))]
	}
	if len(w.m.holds) > 5 {
		c.kind = othersDrop
	}
	if len(w.m.objects)+len(w.m.asked) > 5 {
		c.kind = othersGive + w.next(2)
	}
}

// home leads back to the beginning.
func (w *walker) home(t *testing.T) {
	t.Helper()
	for len(w.m.there()) > 0 {
		makeCall(t, w.x, w.m, call{kind: frees, id: w.m.there()[0]})
		same(t, w.x, w.m)
	}
	for len(w.m.holds) > 0 {
		makeCall(t, w.x, w.m, call{kind: othersDrop})
	}
	for len(w.m.asked)+len(w.m.objects) > 0 {
		makeCall(t, w.x, w.m, call{kind: othersGive})
		makeCall(t, w.x, w.m, call{kind: othersFetch})
	}
	if err := w.x.p.Close(); err != nil || w.x.s.Count() != 0 {
		t.Fatal(err, w.x.sight())
	}
	workers, pile := w.x.d.Held()
	if taken, _ := w.x.d.Cache().Count(); taken != workers+pile {
		t.Fatal(w.x.sight())
	}
}

// answers that a long way comes to, of each kind of call: an error's text, or nothing.
func answers() map[int][]string {
	return map[int][]string{
		makes:  {"", "bound", "full", "many", "wait"},
		reads:  {"", "stale", "bound"},
		frees:  {"", "stale", "bound"},
		clones: {"", "stale", "bound", "full", "many"},
		joins:  {"", "stale", "held", "bound", "many"},
		splits: {"", "stale", "bound", "full", "many"},
		writes: {"", "stale", "bound", "wait"},
		pulls:  {"", "stale", "bound"},
	}
}

func TestWalk(t *testing.T) { // P80 to P85: long ways, with others at the store and at the pool
	var lock sync.Mutex
	seen := map[string]int{}
	t.Run("ways", func(t *testing.T) {
		for i, x := range []plan{
			{[]int{8}, 0, 16, 1, 1, 16},
			{[]int{12}, 1, 20, 2, 3, 3},
			{[]int{9, 7}, 2, 30, 3, 4, 64},
			{[]int{2, 1, 4, 1}, 1, 33, 4, 2, 33},
			{[]int{2}, 0, 4, 2, 16, 1},
			{[]int{80}, 3, 64, 4, 12, 60},
			{[]int{6}, 0, 64, 2, 1, 7},
		} {
			t.Run(fmt.Sprintf("%+v", x), func(t *testing.T) {
				t.Parallel()
				w := &walker{x: build(t, x), m: newModel(t, x), state: uint32(i)}
				for step := range 3000 {
					c := w.call(step / 300 % seasons)
					_, end, _ := strings.Cut(unseen(t, w.x, w.m, c), "slabyard: ")
					same(t, w.x, w.m)
					lock.Lock()
					seen[fmt.Sprint(c.kind, end)]++
					lock.Unlock()
				}
				w.home(t)
			})
		}
	})
	for kind, l := range answers() {
		for _, end := range l {
			if seen[fmt.Sprint(kind, end)] < 5 {
				t.Errorf("%d %q: %d times", kind, end, seen[fmt.Sprint(kind, end)])
			}
		}
	}
	t.Log(seen)
}

func TestSameAnswers(t *testing.T) { // P2: the same calls, the same answers, of each of two that stand side by side
	tell := func() func() string {
		x := build(t, plan{[]int{6, 4}, 1, 21, 3, 3, 5})
		i := 0
		return func() string {
			i++
			w := buffer.Who{Worker: i % 3, Node: i % 2}
			id, e1 := x.y.Make(w, letters(i%17))
			l := x.y.IDs()
			id = l[i*7%len(l)]
			n, e2 := x.y.Len(id)
			k, e3 := x.y.Clone(id, n/3, n/2)
			c, e4 := x.y.Split(id, n/2)
			s := fmt.Sprint(id, e1, n, e2, k, e3, c, e4)
			s += fmt.Sprint(x.y.Write(w, id, n/4, letters(n/4)), x.y.Join(l[len(l)-1], l[0]), x.y.Pull(w, l[i%len(l)], 1))
			if i%3 > 0 {
				s += fmt.Sprint(x.y.Free(w, l[i*5%len(l)]), x.y.Free(w, l[i*3%len(l)]))
			}
			return s + x.sight()
		}
	}
	a, b := tell(), tell()
	for range 300 {
		if x, y := a(), b(); x != y {
			t.Fatal(x, y)
		}
	}
}
