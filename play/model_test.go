package play_test

import (
	"fmt"
	"slices"
	"testing"

	"slabyard/api"
	"slabyard/buffer"
	"slabyard/plain"
	"slabyard/play"
	"slabyard/pool"
	"slabyard/reclaim"
	"slabyard/store"
	"slabyard/zone"
)

// model is what a play ought to be: a house and a yard of its own, of which is asked what the document tells of each number.
type model struct {
	nodes int
	house *reclaim.House
	yard  *buffer.Yard
	loose []api.Object
}

func newModel(t *testing.T, c zone.Config) *model {
	t.Helper()
	h, err := reclaim.New(c, []int{16, 40}, 2)
	if err != nil {
		t.Fatal(err)
	}
	d, err := h.Depot(0)
	if err != nil {
		t.Fatal(err)
	}
	p, err := pool.New(d, 0, 2)
	if err != nil {
		t.Fatal(err)
	}
	s, err := store.New(p, 16)
	if err != nil {
		t.Fatal(err)
	}
	y, err := buffer.New(s)
	if err != nil {
		t.Fatal(err)
	}
	return &model{nodes: len(c.Pages), house: h, yard: y}
}

// step is what a number of a script is answered.
func (m *model) step(v int) int {
	if v < 0 {
		return -1
	}
	q, kind := v>>4, v&15
	w := buffer.Who{Worker: q & 1, Node: q - q/m.nodes*m.nodes}
	var err error
	switch {
	case kind == makes:
		text := ""
		for range q % 5 {
			text += fmt.Sprint("b", q)
		}
		_, err = m.yard.Make(w, text)
	case kind >= takes && kind <= empties:
		err = m.below(kind, q, w)
	default:
		err = m.inBuffer(kind, q, w)
	}
	code, _ := plain.Code(err)
	return code
}

func (m *model) inBuffer(kind, q int, w buffer.Who) error {
	l := m.yard.IDs()
	if len(l) == 0 {
		return api.ErrNone
	}
	id := l[q%len(l)]
	length, err := m.yard.Len(id)
	if err != nil {
		return err
	}
	at := q % (length + 1)
	text := "www"
	for at+len(text) > length {
		text = text[1:]
	}
	switch kind {
	case clones, clonesToo:
		_, err = m.yard.Clone(id, 0, length)
	case clonesOn:
		_, err = m.yard.Clone(id, at, length-at)
	case splits:
		_, err = m.yard.Split(id, at)
	case joins:
		err = m.yard.Join(slices.Min(l), id)
	case writes, writesToo:
		err = m.yard.Write(w, id, at, text)
	case pulls:
		err = m.yard.Pull(w, id, at)
	case frees, freesToo:
		err = m.yard.Free(w, id)
	}
	return err
}

func (m *model) below(kind, q int, w buffer.Who) error {
	first, err := m.house.Depot(0)
	if err != nil {
		return err
	}
	second, err := m.house.Depot(1)
	if err != nil {
		return err
	}
	switch kind {
	case takes:
		var o api.Object
		if o, err = m.house.Take(1, w.Worker, w.Node); err == nil {
			m.loose = append(m.loose, o)
		}
	case gives:
		n := len(m.loose)
		if n == 0 {
			return api.ErrNone
		}
		o := m.loose[q%n]
		m.loose = append(slices.Clone(m.loose[:q%n]), m.loose[q%n+1:]...)
		err = m.house.Give(1, w.Worker, o)
	case reclaims:
		_, err = m.house.Reclaim(w.Node)
	case drains:
		_, err = first.Drain(w.Worker)
	case empties:
		second.Empty()
	}
	return err
}

func (m *model) sight() string { return sight(m.yard, m.house, m.loose) }

// near is a config of three nodes, each with an order of its own.
func near(least, low, high int, pages ...int) zone.Config {
	c := nodes(least, low, high, pages...)
	c.Near = [][]int{{1, 3, 2}, {9, 0, 8}, {6, 5, 4}}
	return c
}

// configs of plays: many pages, few, and none to be had but for who is urgent.
func configs() []zone.Config {
	return []zone.Config{
		nodes(0, 0, 0, 1),
		nodes(0, 0, 1, 2),
		nodes(1, 2, 3, 8, 8),
		nodes(1, 1, 2, 3, 2),
		nodes(2, 4, 9, 16, 9),
		near(1, 1, 5, 5, 7, 3),
		near(0, 3, 3, 4, 4, 4),
		nodes(3, 8, 20, 30, 10, 1, 20),
		nodes(0, 0, 0, 256, 256, 256, 256),
		nodes(5, 300, 400, 20, 3),
	}
}

// pair of a play and its model, of which the same is asked.
type pair struct {
	rig
	m *model
}

func (x pair) run(v int) int {
	x.Helper()
	l, want := x.p.Run([]int{v}), x.m.step(v)
	if len(l) != 1 || l[0] != want {
		x.Fatalf("%d (kind %d, q %d): %v, want %d; %s", v, v%16, v/16, l, want, x.m.sight())
	}
	return want
}

func (x pair) same() {
	x.Helper()
	if got, want := x.sight(), x.m.sight(); got != want {
		x.Fatalf("%s, want %s", got, want)
	}
}

func TestAllPairs(t *testing.T) { // P101, P102: each two numbers, behind a few ways to begin
	for k, c := range []zone.Config{nodes(0, 0, 1, 2), nodes(1, 2, 3, 4, 3), near(0, 3, 3, 4, 4, 4)} {
		for i, first := range [][]int{
			nil,
			{num(makes, 13), num(makes, 66), num(takes, 0), num(takes, 1), num(makes, 4)},
			{num(makes, 34), num(clones, 0), num(takes, 1), num(splits, 4), num(takes, 2), num(gives, 0), num(pulls, 5), num(frees, 1)},
		} {
			t.Run(fmt.Sprint(k, i), func(t *testing.T) {
				t.Parallel()
				for a := range 16 * 9 {
					for b := range 16 * 6 {
						x := pair{start(t, c), newModel(t, c)}
						for _, v := range first {
							x.run(v)
						}
						x.run(a)
						x.run(b)
						x.same()
						x.sound()
					}
				}
			})
		}
	}
}

// walker goes a long way with a play.
type walker struct {
	pair
	state uint32
	wild  bool // others ask the yard and the house, too
	lost  []api.Place
	seen  map[[2]int]int // kinds and their answers
}

func (w *walker) next(n int) int {
	w.state = w.state*1664525 + 1013904223
	return int(w.state>>8) % n
}

// number where more is made than let go, or less.
func (w *walker) number(up bool) int {
	k := w.next(100)
	if k < 3 {
		return -1 - w.next(1000)
	}
	kind := w.next(16)
	if up && k < 40 {
		kind = []int{makes, clones, takes, clonesOn}[k%4]
	}
	if !up && k < 45 {
		kind = []int{frees, gives, freesToo, pulls, joins}[k%5]
	}
	if k > 90 {
		return num(kind, w.next(1<<24)*w.next(1<<20))
	}
	return num(kind, w.next(60))
}

// others ask the play's yard and its house, and the model's.
func (w *walker) others() {
	w.Helper()
	kind, n := w.next(8), w.next(12)
	lost, loose := slices.Clone(w.lost), slices.Clone(w.m.loose)
	ask := func(h *reclaim.House, y *buffer.Yard) (p api.Place, id int, o api.Object, err error) {
		switch {
		case kind == 0:
			id, err = y.Make(buffer.Who{Worker: n % 2}, "of somebody else"[n:])
		case kind == 1:
			err = y.Free(buffer.Who{}, n)
		case kind == 2:
			o, err = h.Take(n%2, n/2%2, 0)
		case kind == 3 && len(loose) > 0:
			err = h.Give(1, n%2, loose[n%len(loose)])
		case kind == 4:
			p, err = h.Zone().Take(0, n%3, true)
		case kind > 4 && len(lost) > 0:
			err = h.Zone().Give(lost[0])
		}
		return p, id, o, err
	}
	p, id, o, err := ask(w.p.House(), w.p.Yard())
	place, number, object, e := ask(w.m.house, w.m.yard)
	if p != place || id != number || o != object || err != e {
		w.Fatal(kind, n, p, id, o, err, place, number, object, e)
	}
	if kind == 4 && err == nil {
		w.lost = append(w.lost, p)
	}
	if kind > 4 && len(lost) > 0 {
		w.lost = lost[1:]
	}
}

// walk holds the play against the model on the way.
func (w *walker) walk(steps int) {
	w.Helper()
	for k := range steps {
		v := w.number(k/150%2 == 0)
		answer := w.run(v)
		if v >= 0 {
			w.seen[[2]int{v % 16, answer}]++
		}
		if w.wild && w.next(12) == 0 {
			w.others()
		}
		w.same()
		if !w.wild {
			w.sound()
		}
	}
}

// answers of each kind that there are where nobody else is there.
func answers() map[int][]int {
	return map[int][]int{
		makes: {0, 5, 8}, clones: {0, 4, 5, 10}, clonesOn: {0, 4, 5, 10}, splits: {0, 4, 5, 10}, joins: {0, 4, 6, 10},
		writes: {0, 4, 8}, pulls: {0, 4}, frees: {0, 4}, takes: {0, 5}, gives: {0, 4}, reclaims: {0}, drains: {0}, empties: {0},
		clonesToo: {0, 4, 5, 10}, writesToo: {0, 4, 8}, freesToo: {0, 4},
	}
}

func TestWalk(t *testing.T) { // P101, P102: long ways, with each answer that there is; and others at the yard and at the house
	seen := map[[2]int]int{}
	for k, c := range configs() {
		for seed := range 4 {
			w := &walker{pair: pair{start(t, c), newModel(t, c)}, state: uint32(4*k + seed), wild: seed == 3, seen: seen}
			if w.wild {
				w.seen = map[[2]int]int{}
			}
			w.walk(1000)
		}
	}
	wants := 0
	for kind, l := range answers() {
		for _, answer := range l {
			wants++
			if seen[[2]int{kind, answer}] == 0 {
				t.Error("never seen", kind, answer)
			}
		}
	}
	if len(seen) != wants {
		t.Error(len(seen), wants, seen)
	}
}

func TestSameScript(t *testing.T) { // P102, P2: the same script, the same play, at once or in pieces, beside others
	for k, c := range configs() {
		w := &walker{state: uint32(k)}
		var script []int
		for i := range 900 {
			script = append(script, w.number(i/150%2 == 0))
		}
		a, b, pieces := start(t, c), start(t, c), start(t, c)
		wants := a.p.Run(script)
		if l := b.p.Run(script); !slices.Equal(l, wants) || len(l) != len(script) {
			t.Error(k, l, wants)
		}
		var l []int
		for i := 0; i < len(script); i += 1 + i%7 {
			l = append(l, pieces.p.Run(script[i:min(i+1+i%7, len(script))])...)
			_, _ = play.New(c)
		}
		if !slices.Equal(l, wants) {
			t.Error(k, l, wants)
		}
		for _, r := range []rig{b, pieces} {
			if r.sight() != a.sight() {
				t.Error(k, r.sight(), a.sight())
			}
			r.sound()
		}
	}
}

func TestHome(t *testing.T) { // P102: when all is let go the pool's reserve is left, and nothing else
	for k, c := range configs() {
		x := pair{start(t, c), newModel(t, c)}
		x.p.Run(count(600))
		for len(x.p.Yard().IDs()) > 0 {
			x.steps(frees, 0)
		}
		for len(x.p.Loose()) > 0 {
			x.steps(gives, 0)
		}
		x.steps(drains, 0, 1)
		x.steps(empties, 0)
		for i := range 2 {
			x.depot(i).Empty()
			for worker := range 2 {
				_, _ = x.depot(i).Drain(worker)
			}
			for node, pages := range c.Pages {
				_, _ = x.depot(i).Cache().Shrink(node, pages)
			}
			x.held(i, 0, 0)
		}
		x.sound()
		if taken, _ := x.depot(0).Cache().Count(); taken != 2 {
			t.Error(k, taken)
		}
		x.taken(1)
	}
}

func TestAuditOfAPlay(t *testing.T) { // P102: nil, unless somebody else takes of the zone
	r := bare(t, 256)
	r.p.Run(count(300))
	r.sound()
	p, err := r.p.House().Zone().Take(0, 0, true)
	if err != nil {
		t.Fatal(err)
	}
	if err := r.p.House().Audit(); err != api.ErrShape {
		t.Error(err)
	}
	if err := r.p.House().Zone().Give(p); err != nil {
		t.Error(err)
	}
	r.sound()
}
