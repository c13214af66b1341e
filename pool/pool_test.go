package pool_test

import (
	"fmt"
	"math"
	"slices"
	"testing"

	"slabyard/api"
	"slabyard/magazine"
	"slabyard/pool"
	"slabyard/slab"
	"slabyard/zone"
)

// wild are numbers far from all that is asked for.
var wild = []int{math.MinInt, math.MinInt + 1, -1 << 32, 1 << 32, 1<<32 + 1, math.MaxInt - 1, math.MaxInt}

// nodes are as many as pages, each as far from each other one.
func nodes(least int, pages ...int) zone.Config {
	c := zone.Config{Pages: pages, Marks: api.Marks{Min: least, Low: least, High: least}}
	for i := range pages {
		far := slices.Repeat([]int{1}, len(pages))
		far[i] = 0
		c.Near = append(c.Near, far)
	}
	return c
}

// depot over a cache and a zone of its own.
func depot(t *testing.T, c zone.Config, size, workers int) *magazine.Depot {
	t.Helper()
	z, e1 := zone.New(c)
	l, e2 := slab.New(z, size)
	d, e3 := magazine.New(l, workers)
	if e1 != nil || e2 != nil || e3 != nil {
		t.Fatal(c, size, workers, e1, e2, e3)
	}
	return d
}

func makePool(t *testing.T, d *magazine.Depot, node, reserve int) *pool.Pool {
	t.Helper()
	p, err := pool.New(d, node, reserve)
	if err != nil || p == nil {
		t.Fatal(node, reserve, err)
	}
	return p
}

// few makes a depot that has so many objects, at most 8, free, of one page: others have the rest. See number.
func few(t *testing.T, objects, workers int) *magazine.Depot {
	t.Helper()
	d := depot(t, nodes(0, 1), 8, workers)
	for range 8 {
		if _, err := d.Take(0, 0, false); err != nil {
			t.Fatal(err)
		}
	}
	for i := range objects {
		if err := d.Cache().Give(number(i)); err != nil {
			t.Fatal(err)
		}
	}
	return d
}

// start makes a pool of few objects, for three workers. The reserve has the first ones.
func start(t *testing.T, objects, reserve int) (*magazine.Depot, *pool.Pool) {
	t.Helper()
	d := few(t, objects, 3)
	return d, makePool(t, d, 0, reserve)
}

// number is the object of this number, of few: they are taken in this order.
func number(i int) api.Object { return api.Object{At: 8 * i} }

// page is the object that has this page of a node, where objects are as long: of 2, 4, 8 .. pages they are taken in this order.
func page(node, i int) api.Object { return api.Object{Node: node, At: 64 * i} }

// depotSight is all that can be told of a depot and of its cache without changing them.
func depotSight(d *magazine.Depot) string {
	workers, pile := d.Held()
	taken, room := d.Cache().Count()
	return fmt.Sprint(workers, pile, taken, room, d.Cache().Slabs(), d.Cache().Taken())
}

// sight is all that can be told of a pool and of its depot without changing them.
func sight(d *magazine.Depot, p *pool.Pool) string {
	s := fmt.Sprint(p.Waiting(), p.Reserve())
	for _, ticket := range p.Waiting() {
		s += fmt.Sprint(p.Ready(ticket))
	}
	return s + depotSight(d)
}

// takes holds which object each answer is, in turn.
func takes(t *testing.T, p *pool.Pool, worker, node int, wants ...api.Object) {
	t.Helper()
	for i, want := range wants {
		if o, err := p.Take(worker, node); o != want || err != nil {
			t.Fatalf("take %d by %d: %v, %v, want %v", i, worker, o, err, want)
		}
	}
}

// take is likewise at node 0, by numbers.
func take(t *testing.T, p *pool.Pool, worker int, wants ...int) {
	t.Helper()
	for _, want := range wants {
		takes(t, p, worker, 0, number(want))
	}
}

// depotTake is likewise of a depot itself.
func depotTake(t *testing.T, d *magazine.Depot, worker int, wants ...int) {
	t.Helper()
	for i, want := range wants {
		if o, err := d.Take(worker, 0, true); o != number(want) || err != nil {
			t.Fatalf("take %d of the depot by %d: %v, %v, want %d", i, worker, o, err, want)
		}
	}
}

// refused takes, and holds the error against what is wanted.
func refused(t *testing.T, p *pool.Pool, worker, node int, want error) {
	t.Helper()
	if o, err := p.Take(worker, node); o != (api.Object{}) || err != want {
		t.Fatalf("take by %d at %d: %v, %v, want %v", worker, node, o, err, want)
	}
}

func give(t *testing.T, p *pool.Pool, worker int, numbers ...int) {
	t.Helper()
	for _, i := range numbers {
		if err := p.Give(worker, number(i)); err != nil {
			t.Fatal(worker, i, err)
		}
	}
}

// wait lets so many ask, who find nothing.
func wait(t *testing.T, p *pool.Pool, n int) {
	t.Helper()
	for range n {
		refused(t, p, 0, 0, api.ErrWait)
	}
}

func waiting(t *testing.T, p *pool.Pool, wants ...int) {
	t.Helper()
	if l := p.Waiting(); !slices.Equal(l, wants) {
		t.Fatalf("waiting: %v, want %v", l, wants)
	}
}

func reserve(t *testing.T, p *pool.Pool, want int) {
	t.Helper()
	if n := p.Reserve(); n != want {
		t.Fatalf("reserve: %d, want %d", n, want)
	}
}

func holds(t *testing.T, d *magazine.Depot, workers, pile int) {
	t.Helper()
	if w, p := d.Held(); w != workers || p != pile {
		t.Fatalf("held %d and %d, want %d and %d", w, p, workers, pile)
	}
}

// fetch holds what is ready for a ticket against a number.
func fetch(t *testing.T, p *pool.Pool, ticket, want int) {
	t.Helper()
	if o, got, err := p.Ready(ticket); o != number(want) || !got || err != nil {
		t.Fatalf("ready %d: %v, %v, %v, want %d", ticket, o, got, err, want)
	}
}

// noneReady holds that these tickets wait still.
func noneReady(t *testing.T, p *pool.Pool, tickets ...int) {
	t.Helper()
	for _, k := range tickets {
		if o, got, err := p.Ready(k); o != (api.Object{}) || got || err != nil {
			t.Fatalf("ready %d: %v, %v, %v", k, o, got, err)
		}
	}
}

// ended holds that there are no such tickets, and nothing is changed by asking.
func ended(t *testing.T, d *magazine.Depot, p *pool.Pool, tickets ...int) {
	t.Helper()
	before := sight(d, p)
	for _, k := range tickets {
		o, got, e1 := p.Ready(k)
		e2 := p.Cancel(k)
		if o != (api.Object{}) || got || e1 != api.ErrNone || e2 != api.ErrNone || sight(d, p) != before {
			t.Fatal(k, o, got, e1, e2, sight(d, p))
		}
	}
}

func cancel(t *testing.T, p *pool.Pool, tickets ...int) {
	t.Helper()
	for _, k := range tickets {
		if err := p.Cancel(k); err != nil {
			t.Fatal(k, err)
		}
	}
}

// staysHeld holds that a pool does not close, and nothing is changed.
func staysHeld(t *testing.T, d *magazine.Depot, p *pool.Pool) {
	t.Helper()
	before := sight(d, p)
	if err := p.Close(); err != api.ErrHeld || sight(d, p) != before {
		t.Fatal(err, sight(d, p))
	}
}

func closes(t *testing.T, p *pool.Pool) {
	t.Helper()
	if err := p.Close(); err != nil {
		t.Fatal(err)
	}
}

// stale holds that an object is, for each worker, and that nothing is changed.
func stale(t *testing.T, d *magazine.Depot, p *pool.Pool, l ...api.Object) {
	t.Helper()
	before := sight(d, p)
	for _, o := range l {
		for worker := range d.Workers() {
			if err := p.Give(worker, o); err != api.ErrStale || sight(d, p) != before {
				t.Fatal(worker, o, err, sight(d, p))
			}
		}
	}
}

func TestNewErrors(t *testing.T) { // P60: ErrShape, then ErrBound of the reserve, then the depot's; nothing is taken
	d := depot(t, nodes(0, 4, 1), 1, 2)
	before := depotSight(d)
	for _, n := range append([]int{-1, 0, 17, 18, 100}, wild...) {
		for node := -1; node <= 2; node++ {
			if p, err := pool.New(nil, node, n); p != nil || err != api.ErrShape {
				t.Error(node, n, err)
			}
			if p, err := pool.New(d, node, n); p != nil || err != api.ErrBound || depotSight(d) != before {
				t.Error(node, n, err)
			}
		}
	}
	for _, node := range append([]int{-1, 2, 3}, wild...) {
		if p, err := pool.New(nil, node, 1); p != nil || err != api.ErrShape {
			t.Error(node, err)
		}
		if p, err := pool.New(d, node, 1); p != nil || err != api.ErrBound || depotSight(d) != before {
			t.Error(node, err)
		}
	}
}

func TestNew(t *testing.T) { // P60: from 1 to 16 of the depot, urgent
	for n := 1; n <= 16; n++ {
		d := depot(t, nodes(16, 16), 64, 1) // who is not urgent gets nothing there
		p := makePool(t, d, 0, n)
		reserve(t, p, n)
		waiting(t, p)
		holds(t, d, 0, 0)
		if taken, _ := d.Cache().Count(); taken != n {
			t.Error(n, taken)
		}
		for i := n - 1; i >= 0; i-- { // what came last is first
			takes(t, p, 0, 0, page(0, i))
			reserve(t, p, i)
		}
		wait(t, p, 1)
	}
}

func TestNewAtANode(t *testing.T) { // P60: of that node, as long as it has any
	d := depot(t, nodes(0, 4, 2), 64, 1)
	p := makePool(t, d, 1, 3)
	if got := fmt.Sprint(d.Cache().Taken()); got != "[{0 0} {1 0} {1 64}]" {
		t.Error(got)
	}
	takes(t, p, 0, 1, page(0, 1), page(0, 2), page(0, 3), page(0, 0), page(1, 1), page(1, 0))
	wait(t, p, 1)
}

func TestNewByWorkerNought(t *testing.T) { // P60: what lies in worker 0's magazines is taken, what in another's is not
	d := few(t, 8, 2)
	depotTake(t, d, 0, 0, 1, 2, 3, 4)
	for i, worker := range []int{1, 0, 1, 0, 1} {
		if err := d.Give(worker, number(i)); err != nil {
			t.Fatal(err)
		}
	}
	p := makePool(t, d, 0, 3)
	holds(t, d, 3, 0)
	reserve(t, p, 3)
	for i := 6; i < 8; i++ {
		depotTake(t, d, 0, i)
	}
	take(t, p, 0, 5, 1, 3)
	wait(t, p, 1)
	depotTake(t, d, 1, 4, 2, 0)
}

func TestNewWithoutEnough(t *testing.T) { // P60: the depot's error; what was taken lies in worker 0's magazines, slabs stay
	for pages := 1; pages <= 12; pages++ {
		d := depot(t, nodes(1, pages), 64, 2)
		for n := pages + 1; n <= 16; n++ {
			if p, err := pool.New(d, 0, n); p != nil || err != api.ErrFull {
				t.Fatal(pages, n, err)
			}
			pile := max(0, (pages-5)/4*4)
			holds(t, d, pages-pile, pile)
			if taken, room := d.Cache().Count(); taken != pages || room != pages || len(d.Cache().Slabs()) != pages {
				t.Fatal(pages, n, depotSight(d))
			}
		}
		p := makePool(t, d, 0, pages)
		holds(t, d, 0, 0)
		reserve(t, p, pages)
	}
}

func TestNewGivesBackInOrder(t *testing.T) { // P60: of what was taken the first one is given back first
	d := few(t, 3, 2)
	if _, err := pool.New(d, 0, 4); err != api.ErrFull {
		t.Fatal(err)
	}
	holds(t, d, 3, 0)
	depotTake(t, d, 0, 2, 1, 0)
	holds(t, d, 0, 0)
}

func TestNewOfNoNode(t *testing.T) { // P60: the node is the depot's to look at: it does where its magazines have not enough
	d := few(t, 3, 1)
	depotTake(t, d, 0, 0, 1)
	for i := range 2 {
		if err := d.Give(0, number(i)); err != nil {
			t.Fatal(err)
		}
	}
	if p, err := pool.New(d, 1, 3); p != nil || err != api.ErrBound {
		t.Error(err)
	}
	holds(t, d, 2, 0)
	p := makePool(t, d, 1, 2)
	reserve(t, p, 2)
	refused(t, p, 0, 1, api.ErrBound)
	take(t, p, 0, 2)
}

func TestWorkers(t *testing.T) { // they are those of the depot
	for n := 1; n <= 4; n++ {
		if p := makePool(t, few(t, 1, n), 0, 1); p.Workers() != n {
			t.Error(n, p.Workers())
		}
	}
}

func TestTakeOfTheDepot(t *testing.T) { // P61: it is the depot's Take, of this worker, at this node, ahead of the reserve
	d := depot(t, nodes(0, 4, 2), 64, 3)
	p := makePool(t, d, 0, 2)
	takes(t, p, 0, 0, page(0, 2))
	takes(t, p, 2, 1, page(1, 0))
	takes(t, p, 1, 0, page(0, 3))
	takes(t, p, 0, 0, page(1, 1))
	reserve(t, p, 2)
	for worker, o := range []api.Object{page(0, 3), page(1, 0), page(0, 2)} {
		if err := p.Give(worker, o); err != nil {
			t.Fatal(o, err)
		}
	}
	takes(t, p, 2, 1, page(0, 2))
	reserve(t, p, 2)
	takes(t, p, 2, 0, page(0, 1)) // of the reserve, while workers 0 and 1 have some
	takes(t, p, 0, 1, page(0, 3))
	reserve(t, p, 1)
	takes(t, p, 0, 1, page(0, 0))
	reserve(t, p, 0)
	wait(t, p, 1)
	holds(t, d, 1, 0)
}

func TestTakeIsNotUrgent(t *testing.T) { // P61: with ErrLow, too, the reserve helps out; what came last is first
	d := depot(t, nodes(4, 8), 64, 1)
	p := makePool(t, d, 0, 3)
	takes(t, p, 0, 0, page(0, 3)) // behind it 4 are free
	takes(t, p, 0, 0, page(0, 2), page(0, 1))
	reserve(t, p, 1)
	for _, i := range []int{3, 2} {
		if err := p.Give(0, page(0, i)); err != nil {
			t.Fatal(err)
		}
	}
	reserve(t, p, 3)
	takes(t, p, 0, 0, page(0, 2), page(0, 3), page(0, 0))
	wait(t, p, 2)
	waiting(t, p, 1, 2)
	if o, err := d.Take(0, 0, true); o != page(0, 4) || err != nil { // who is urgent gets it
		t.Error(o, err)
	}
}

func TestWait(t *testing.T) { // P61: tickets from 1 on, of all who ever waited; ErrMany has none
	d, p := start(t, 3, 1)
	take(t, p, 0, 1, 2, 0)
	for i := 1; i <= 8; i++ {
		refused(t, p, i%3, 0, api.ErrWait)
		if l := p.Waiting(); len(l) != i || l[i-1] != i {
			t.Fatal(l)
		}
		noneReady(t, p, i)
		ended(t, d, p, i+1)
	}
	before := sight(d, p)
	for range 5 {
		refused(t, p, 1, 0, api.ErrMany)
	}
	if sight(d, p) != before {
		t.Error(sight(d, p))
	}
	cancel(t, p, 3, 8)
	waiting(t, p, 1, 2, 4, 5, 6, 7)
	wait(t, p, 2)
	waiting(t, p, 1, 2, 4, 5, 6, 7, 9, 10)
	refused(t, p, 0, 0, api.ErrMany)
	cancel(t, p, 1, 2, 4, 5, 6, 7, 9, 10)
	waiting(t, p)
	wait(t, p, 1)
	waiting(t, p, 11)
}

func TestWaitAtOnce(t *testing.T) { // P61: where somebody waits the depot is not asked, whatever it has
	d, p := start(t, 6, 1)
	depotTake(t, d, 0, 1, 2, 3, 4)
	take(t, p, 0, 5, 0)
	wait(t, p, 1)
	for i := 1; i <= 4; i++ {
		if err := d.Give(0, number(i)); err != nil {
			t.Fatal(err)
		}
	}
	wait(t, p, 7)
	waiting(t, p, 1, 2, 3, 4, 5, 6, 7, 8)
	holds(t, d, 4, 0)
	refused(t, p, 0, 0, api.ErrMany)
	holds(t, d, 4, 0)
	cancel(t, p, 1, 2, 3, 4, 5, 6, 7)
	wait(t, p, 1)
	give(t, p, 0, 5, 0) // for 8 and 9, who have not fetched it: but nobody waits
	waiting(t, p)
	take(t, p, 0, 4, 3, 2, 1)
	wait(t, p, 8)
	refused(t, p, 0, 0, api.ErrMany)
	holds(t, d, 0, 0)
}

func TestWaitersWithSomethingDoNotWait(t *testing.T) { // P61, P62: eight may wait beside those who have got something
	_, p := start(t, 3, 3)
	take(t, p, 0, 2, 1, 0)
	wait(t, p, 8)
	give(t, p, 0, 0, 1, 2)
	waiting(t, p, 4, 5, 6, 7, 8)
	wait(t, p, 3)
	refused(t, p, 0, 0, api.ErrMany)
	waiting(t, p, 4, 5, 6, 7, 8, 9, 10, 11)
	fetch(t, p, 3, 2)
	refused(t, p, 0, 0, api.ErrMany)
}

func TestTakeBounds(t *testing.T) { // P61: ErrBound of worker and node ahead of all: of what is at hand, of waiting, of ErrMany
	for workers := 1; workers <= 4; workers++ {
		d := depot(t, nodes(0, 1, 1), 16, workers)
		p := makePool(t, d, 0, 2)
		wrong := func() {
			t.Helper()
			before := sight(d, p)
			for _, worker := range append([]int{-1, workers, workers + 1}, wild...) {
				for node := -1; node <= 2; node++ {
					refused(t, p, worker, node, api.ErrBound)
				}
			}
			for _, node := range append([]int{-1, 2, 3}, wild...) {
				refused(t, p, workers-1, node, api.ErrBound)
			}
			if sight(d, p) != before {
				t.Fatal(sight(d, p))
			}
		}
		wrong()
		takes(t, p, 0, 0, api.Object{At: 32})
		if err := p.Give(workers-1, api.Object{At: 32}); err != nil { // at hand
			t.Fatal(err)
		}
		wrong()
		takes(t, p, workers-1, 1, api.Object{At: 32})
		for at := 0; at < 64; at += 16 {
			takes(t, p, 0, 1, api.Object{Node: 1, At: at})
		}
		takes(t, p, 0, 0, api.Object{At: 48})
		wrong()
		takes(t, p, 0, 1, api.Object{At: 16}, api.Object{At: 0})
		wrong()
		wait(t, p, 1)
		wrong()
		wait(t, p, 7)
		wrong()
	}
}

func TestGive(t *testing.T) { // P61: who waits first, then the reserve, then the depot, of this worker
	d, p := start(t, 8, 2)
	take(t, p, 0, 2, 3, 4, 5, 6, 7, 1, 0)
	wait(t, p, 2)
	give(t, p, 2, 3)
	waiting(t, p, 2)
	reserve(t, p, 0)
	give(t, p, 1, 5)
	waiting(t, p)
	reserve(t, p, 0)
	give(t, p, 2, 0)
	reserve(t, p, 1)
	give(t, p, 1, 7)
	reserve(t, p, 2)
	holds(t, d, 0, 0)
	give(t, p, 1, 1)
	give(t, p, 2, 2, 4)
	reserve(t, p, 2)
	holds(t, d, 3, 0)
	fetch(t, p, 2, 5)
	fetch(t, p, 1, 3)
	depotTake(t, d, 1, 1)
	depotTake(t, d, 2, 4, 2)
	take(t, p, 0, 7, 0)
}

func TestGiveOfNoWorker(t *testing.T) { // P61: ErrBound ahead of ErrStale
	for workers := 1; workers <= 4; workers++ {
		d := few(t, 3, workers)
		p := makePool(t, d, 0, 1)
		take(t, p, 0, 1)
		wrong := func() {
			t.Helper()
			before := sight(d, p)
			for _, worker := range append([]int{-1, workers, workers + 1}, wild...) {
				for _, o := range []api.Object{number(1), number(0), number(2), {Node: -1}} {
					if err := p.Give(worker, o); err != api.ErrBound || sight(d, p) != before {
						t.Fatal(worker, o, err)
					}
				}
			}
		}
		wrong()
		take(t, p, 0, 2, 0)
		wrong()
		wait(t, p, 1)
		wrong()
	}
}

func TestGiveStale(t *testing.T) { // P61: all that is not taken of the pool, just so; nothing is changed
	d := depot(t, nodes(0, 8), 30, 2)
	p := makePool(t, d, 0, 2) // {0 0} and {0 30}
	for _, at := range []int{64, 94, 128} {
		if o, err := p.Take(0, 0); o.At != at || err != nil {
			t.Fatal(o, err)
		}
	}
	if o, err := d.Take(0, 0, false); o.At != 158 || err != nil { // somebody else's
		t.Fatal(o, err)
	}
	if err := p.Give(1, api.Object{At: 94}); err != nil { // it lies in a magazine
		t.Fatal(err)
	}
	held := []api.Object{{At: 64}, {At: 128}}
	for node := -1; node <= 1; node++ {
		for at := -70; at <= 300; at++ {
			if o := (api.Object{Node: node, At: at}); !slices.Contains(held, o) {
				stale(t, d, p, o)
			}
		}
		for _, at := range wild {
			stale(t, d, p, api.Object{Node: node, At: at})
		}
	}
	for _, node := range wild {
		stale(t, d, p, api.Object{Node: node, At: 64})
	}
	for _, o := range held {
		if err := p.Give(0, o); err != nil {
			t.Fatal(o, err)
		}
		stale(t, d, p, held[0]) // twice
	}
}

func TestGiveStaleWithWaiters(t *testing.T) { // P61: also while somebody waits, and while something is ready, or in the reserve
	d, p := start(t, 4, 1)
	take(t, p, 0, 1, 2)
	depotTake(t, d, 0, 3)
	take(t, p, 0, 0)
	wait(t, p, 2)
	stale(t, d, p, number(3), number(4))
	give(t, p, 0, 1)
	stale(t, d, p, number(1)) // 1 has got it, and not fetched it
	fetch(t, p, 1, 1)
	give(t, p, 0, 1) // 1 has it now, and gives it to 2
	stale(t, d, p, number(1))
	cancel(t, p, 2)
	reserve(t, p, 1)
	stale(t, d, p, number(1))
	take(t, p, 0, 1)
	give(t, p, 0, 1)
}

func TestReady(t *testing.T) { // P62: each gets what is its own, in whatever order they ask, once
	d, p := start(t, 4, 4)
	take(t, p, 0, 3, 2, 1, 0)
	wait(t, p, 5)
	noneReady(t, p, 1, 2, 3, 4, 5)
	noneReady(t, p, 5, 1)
	give(t, p, 0, 2, 0, 3)
	waiting(t, p, 4, 5)
	noneReady(t, p, 4, 5)
	fetch(t, p, 2, 0)
	ended(t, d, p, 2)
	give(t, p, 1, 0, 1)
	fetch(t, p, 5, 1)
	fetch(t, p, 3, 3)
	fetch(t, p, 4, 0)
	fetch(t, p, 1, 2)
	ended(t, d, p, 1, 2, 3, 4, 5)
	give(t, p, 2, 0, 1, 2, 3)
	reserve(t, p, 4)
	closes(t, p)
}

func TestNoTicket(t *testing.T) { // P62: ErrNone of what never was, or is at its end
	d, p := start(t, 2, 1)
	ended(t, d, p, append([]int{-1, 0, 1, 2, 8}, wild...)...)
	take(t, p, 0, 1, 0)
	wait(t, p, 3)
	give(t, p, 0, 0)
	ended(t, d, p, append([]int{-1, 0, 4, 5, 9}, wild...)...)
	cancel(t, p, 2)
	ended(t, d, p, 2)
	cancel(t, p, 1) // what it has got goes to 3
	ended(t, d, p, 1, 2)
	fetch(t, p, 3, 0)
	ended(t, d, p, -1, 0, 1, 2, 3, 4)
}

func TestCancel(t *testing.T) { // P62: who waits does not any more, others keep their places
	d, p := start(t, 3, 3)
	take(t, p, 0, 2, 1, 0)
	wait(t, p, 6)
	cancel(t, p, 3)
	waiting(t, p, 1, 2, 4, 5, 6)
	cancel(t, p, 1, 6)
	waiting(t, p, 2, 4, 5)
	reserve(t, p, 0)
	give(t, p, 0, 1, 0, 2)
	waiting(t, p)
	fetch(t, p, 4, 0)
	fetch(t, p, 2, 1)
	fetch(t, p, 5, 2)
	holds(t, d, 0, 0)
}

func TestCancelOfWhatIsReady(t *testing.T) { // P62, P63: it goes to who waits first; else into the reserve; else to worker 0's magazine
	d, p := start(t, 5, 1)
	take(t, p, 0, 1, 2, 3, 4, 0)
	wait(t, p, 4)
	give(t, p, 1, 3, 2)
	cancel(t, p, 1)
	waiting(t, p, 4)
	cancel(t, p, 2)
	waiting(t, p)
	fetch(t, p, 3, 3)
	cancel(t, p, 4)
	reserve(t, p, 1)
	take(t, p, 2, 2)
	wait(t, p, 2)
	give(t, p, 1, 1, 0, 4)
	reserve(t, p, 1)
	holds(t, d, 0, 0)
	cancel(t, p, 6)
	reserve(t, p, 1)
	holds(t, d, 1, 0)
	take(t, p, 1, 4)
	take(t, p, 0, 0)
	fetch(t, p, 5, 1)
	ended(t, d, p, 1, 2, 3, 4, 5, 6)
}

func TestCloseHeld(t *testing.T) { // P62: while an object is taken, somebody waits, or has got one and not fetched it
	d, p := start(t, 2, 1)
	take(t, p, 0, 1)
	staysHeld(t, d, p)
	take(t, p, 0, 0)
	wait(t, p, 3)
	staysHeld(t, d, p)
	give(t, p, 0, 0, 1)
	waiting(t, p, 3)
	staysHeld(t, d, p) // nothing is taken
	cancel(t, p, 3)
	staysHeld(t, d, p) // nobody waits
	cancel(t, p, 1)
	reserve(t, p, 1)
	staysHeld(t, d, p) // 2 has got one
	fetch(t, p, 2, 1)
	staysHeld(t, d, p) // it is taken now
	give(t, p, 0, 1)
	closes(t, p)
}

func TestCloseWhileSomebodyWaits(t *testing.T) { // P62: ErrHeld, also if nothing is taken, and nothing is ready
	d, p := start(t, 2, 1)
	take(t, p, 0, 1, 0)
	wait(t, p, 2)
	for i := range 2 { // past the pool
		if err := d.Give(0, number(i)); err != nil {
			t.Fatal(err)
		}
	}
	staysHeld(t, d, p)
	cancel(t, p, 2)
	staysHeld(t, d, p)
	cancel(t, p, 1)
	closes(t, p)
}

func TestClose(t *testing.T) { // P62: the reserve lies in worker 0's magazines, what came first is given first; all else is ErrNone
	d, p := start(t, 5, 3)
	take(t, p, 0, 3, 4, 2)
	give(t, p, 1, 4)
	give(t, p, 1, 2, 3)
	holds(t, d, 2, 0)
	closes(t, p)
	holds(t, d, 5, 0)
	before := sight(d, p)
	for _, worker := range append([]int{-1, 0, 1, 2, 3}, wild...) {
		for node := -1; node <= 1; node++ {
			refused(t, p, worker, node, api.ErrNone)
		}
		for i := -1; i <= 5; i++ {
			if err := p.Give(worker, number(i)); err != api.ErrNone {
				t.Fatal(worker, i, err)
			}
		}
	}
	ended(t, d, p, append([]int{-1, 0, 1, 2}, wild...)...)
	if err := p.Close(); err != api.ErrNone {
		t.Error(err)
	}
	waiting(t, p)
	reserve(t, p, 0)
	if sight(d, p) != before || p.Workers() != 0 {
		t.Error(p.Workers(), sight(d, p))
	}
	depotTake(t, d, 0, 4, 1, 0)
	depotTake(t, d, 1, 3, 2)
	refused(t, p, 0, 0, api.ErrNone)
}

func TestCloseBehindWaiting(t *testing.T) { // P62: tickets of old do not come back; a lacking reserve is no hindrance
	d, p := start(t, 2, 2)
	take(t, p, 0, 1, 0)
	wait(t, p, 2)
	cancel(t, p, 1, 2)
	for i := range 2 {
		if err := d.Cache().Give(number(i)); err != nil {
			t.Fatal(err)
		}
	}
	closes(t, p)
	holds(t, d, 0, 0)
	ended(t, d, p, 1, 2)
	q := makePool(t, d, 0, 1) // a new one begins anew
	take(t, q, 0, 1, 0)
	wait(t, q, 1)
	waiting(t, q, 1)
}

func TestGivenPastThePool(t *testing.T) { // P53, P61, P62: what was given to the depot, or to the cache, is not taken any more
	d, p := start(t, 4, 1)
	take(t, p, 0, 1, 2, 3, 0)
	wait(t, p, 1)
	if err := d.Give(1, number(1)); err != nil {
		t.Fatal(err)
	}
	if err := d.Cache().Give(number(2)); err != nil {
		t.Fatal(err)
	}
	stale(t, d, p, number(1), number(2)) // else who waits would have what lies in a magazine
	give(t, p, 0, 3)
	fetch(t, p, 1, 3)
	stale(t, d, p, number(1), number(2))
	give(t, p, 0, 3)
	stale(t, d, p, number(1), number(2))
	staysHeld(t, d, p)
	give(t, p, 0, 0)
	closes(t, p)
	depotTake(t, d, 0, 3, 0)
	depotTake(t, d, 1, 1)
	depotTake(t, d, 0, 2)
}

func TestReadyGivenPastThePool(t *testing.T) { // P1, P62: who cancels then is out of it, whoever has the object
	d, p := start(t, 3, 1)
	take(t, p, 0, 1, 2, 0)
	wait(t, p, 1)
	give(t, p, 0, 1, 0)
	if err := d.Give(1, number(1)); err != nil {
		t.Fatal(err)
	}
	cancel(t, p, 1)
	ended(t, d, p, 1)
	holds(t, d, 1, 0)
	give(t, p, 0, 2)
	if err := d.Give(1, number(0)); err != nil { // of the reserve
		t.Fatal(err)
	}
	closes(t, p)
	holds(t, d, 3, 0)
}

func TestPoolsOfOneDepot(t *testing.T) { // P61: what was taken of one is stale for the other; each has its own line, and tickets
	d := few(t, 6, 2)
	a, b := makePool(t, d, 0, 2), makePool(t, d, 0, 1)
	take(t, a, 0, 3)
	take(t, b, 0, 4)
	take(t, a, 0, 5, 1, 0)
	take(t, b, 0, 2)
	wait(t, a, 1)
	wait(t, b, 2)
	waiting(t, a, 1)
	waiting(t, b, 1, 2)
	stale(t, d, a, number(4), number(2))
	stale(t, d, b, number(3), number(5), number(1), number(0))
	give(t, b, 0, 4)
	noneReady(t, a, 1)
	give(t, a, 0, 3)
	fetch(t, a, 1, 3)
	fetch(t, b, 1, 4)
	noneReady(t, b, 2)
	cancel(t, b, 2)
	give(t, a, 0, 0, 1, 3) // the last one lies in the depot
	take(t, b, 0, 3)
	stale(t, d, a, number(3))
	give(t, b, 0, 3, 4, 2)
	give(t, a, 0, 5)
	closes(t, a)
	reserve(t, b, 1)
	closes(t, b)
}

func TestWaitingIsNew(t *testing.T) { // P4: who writes into an answer changes nothing; later calls do not change it
	_, p := start(t, 1, 1)
	take(t, p, 0, 0)
	wait(t, p, 3)
	l := p.Waiting()
	l[0], l[1], l[2] = 7, 8, 9
	_ = append(l, 10)
	waiting(t, p, 1, 2, 3)
	l = p.Waiting()
	give(t, p, 0, 0)
	cancel(t, p, 2)
	wait(t, p, 2)
	if !slices.Equal(l, []int{1, 2, 3}) {
		t.Error(l)
	}
	waiting(t, p, 3, 4, 5)
}

func TestOthersMade(t *testing.T) { // P1: a depot, and a pool, that New did not make, such as might be handed over
	none, err := magazine.New(&slab.Cache{}, 1)
	if err != nil {
		t.Fatal(err)
	}
	for _, d := range []*magazine.Depot{{}, none} {
		for n := 1; n <= 16; n++ {
			if p, err := pool.New(d, 0, n); p != nil || err != api.ErrBound {
				t.Error(n, err)
			}
		}
	}
	p := &pool.Pool{}
	refused(t, p, 0, 0, api.ErrNone)
	_, _, e1 := p.Ready(1)
	e2, e3, e4 := p.Cancel(1), p.Close(), p.Give(0, api.Object{})
	if e1 != api.ErrNone || e2 != api.ErrNone || e3 != api.ErrNone || e4 != api.ErrNone {
		t.Error(e1, e2, e3, e4)
	}
	waiting(t, p)
	reserve(t, p, 0)
}
