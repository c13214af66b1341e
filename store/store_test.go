package store_test

import (
	"fmt"
	"math"
	"slices"
	"strings"
	"testing"

	"slabyard/api"
	"slabyard/magazine"
	"slabyard/pool"
	"slabyard/slab"
	"slabyard/store"
	"slabyard/zone"
)

// wild are numbers far from all that is asked for.
var wild = []int{math.MinInt, math.MinInt + 1, -1 << 32, 1 << 32, 1<<32 + 1, math.MaxInt - 1, math.MaxInt}

// rig is a store, and what it is made of.
type rig struct {
	d *magazine.Depot
	p *pool.Pool
	s *store.Store
}

// plan of a rig: of which nodes, with which marks, of which objects, for how many workers, with which reserve.
type plan struct {
	pages                          []int
	least, object, workers, spares int
}

// nodes are as many as pages, each as far from each other one.
func nodes(least int, pages ...int) zone.Config {
	c := zone.Config{Pages: pages, Marks: api.Marks{Min: least, Low: least, High: least}}
	for i := range pages {
		far := slices.Repeat([]int{1}, len(pages))
		far[i] = 0
		c.Near = append(c.Near, far)
	}
	return c
}

// makePool makes it by a plan, of node 0, with a depot of its own.
func makePool(t *testing.T, x plan) (*magazine.Depot, *pool.Pool) {
	t.Helper()
	z, e1 := zone.New(nodes(x.least, x.pages...))
	c, e2 := slab.New(z, x.object)
	d, e3 := magazine.New(c, x.workers)
	p, e4 := pool.New(d, 0, x.spares)
	if e1 != nil || e2 != nil || e3 != nil || e4 != nil {
		t.Fatal(x, e1, e2, e3, e4)
	}
	return d, p
}

// build a rig by a plan.
func build(t *testing.T, x plan, size int) rig {
	t.Helper()
	d, p := makePool(t, x)
	s, err := store.New(p, size)
	if err != nil || s == nil {
		t.Fatal(x, size, err)
	}
	return rig{d, p, s}
}

// start makes a rig of as many objects as pages, for three workers: one of them is in the reserve. Blocks have 4 bytes.
func start(t *testing.T, pages int) rig {
	t.Helper()
	return build(t, plan{[]int{pages}, 0, 64, 3, 1}, 4)
}

// ground is all that can be told of a pool and what it is made of without changing them.
func ground(d *magazine.Depot, p *pool.Pool) string {
	workers, pile := d.Held()
	return fmt.Sprint(p.Waiting(), p.Reserve(), workers, pile, d.Cache().Slabs(), d.Cache().Taken())
}

// sight is all that can be told of a rig without changing it.
func (x rig) sight() string {
	s := fmt.Sprint(x.s.Size(), x.s.Count(), x.s.IDs())
	for _, id := range x.s.IDs() {
		b, e1 := x.s.Read(id, 0, x.s.Size())
		n, e2 := x.s.Holders(id)
		s += fmt.Sprintf("%q %v %v %v", b, e1, n, e2)
	}
	return s + ground(x.d, x.p)
}

// out is how many objects are with somebody.
func (x rig) out() int {
	taken, _ := x.d.Cache().Count()
	workers, pile := x.d.Held()
	return taken - workers - pile - x.p.Reserve()
}

// takes holds which number each answer is, in turn.
func (x rig) takes(t *testing.T, worker, node int, wants ...int) {
	t.Helper()
	for _, want := range wants {
		if id, err := x.s.Take(worker, node); id != want || err != nil {
			t.Fatalf("take by %d at %d: %d, %v, want %d", worker, node, id, err, want)
		}
	}
}

// take is likewise by worker 0 at node 0.
func (x rig) take(t *testing.T, wants ...int) {
	t.Helper()
	x.takes(t, 0, 0, wants...)
}

// refused takes, and holds the error against what is wanted; nothing is changed.
func (x rig) refused(t *testing.T, worker, node int, want error) {
	t.Helper()
	before := x.sight()
	if id, err := x.s.Take(worker, node); id != 0 || err != want || x.sight() != before {
		t.Fatalf("take by %d at %d: %d, %v, want %v: %s", worker, node, id, err, want, x.sight())
	}
}

func (x rig) hold(t *testing.T, ids ...int) {
	t.Helper()
	for _, id := range ids {
		if err := x.s.Hold(id); err != nil {
			t.Fatal(id, err)
		}
	}
}

func (x rig) drop(t *testing.T, worker int, ids ...int) {
	t.Helper()
	for _, id := range ids {
		if err := x.s.Drop(worker, id); err != nil {
			t.Fatal(worker, id, err)
		}
	}
}

func (x rig) write(t *testing.T, id, at int, b string) {
	t.Helper()
	if err := x.s.Write(id, at, b); err != nil {
		t.Fatal(id, at, b, err)
	}
}

// bytes holds all of a block against what is wanted.
func (x rig) bytes(t *testing.T, id int, want string) {
	t.Helper()
	if b, err := x.s.Read(id, 0, x.s.Size()); b != want || err != nil {
		t.Fatalf("%d: %q, %v, want %q", id, b, err, want)
	}
}

// held holds how many hold each of the blocks from 1 on; 0: it is not there.
func (x rig) held(t *testing.T, wants ...int) {
	t.Helper()
	var ids []int
	for i, want := range wants {
		n, err := x.s.Holders(i + 1)
		if n != want || (err == nil) != (want > 0) {
			t.Fatalf("%d: %d, %v, want %d", i+1, n, err, want)
		}
		if want > 0 {
			ids = append(ids, i+1)
		}
	}
	if l := x.s.IDs(); !slices.Equal(l, ids) || x.s.Count() != len(ids) {
		t.Fatalf("%d: %v, want %v", x.s.Count(), l, ids)
	}
}

func (x rig) own(t *testing.T, worker, node, id, want int) {
	t.Helper()
	if k, err := x.s.Own(worker, node, id); k != want || err != nil {
		t.Fatalf("own %d: %d, %v, want %d", id, k, err, want)
	}
}

// none holds that there are no such blocks, for no call, and nothing is changed by asking.
func (x rig) none(t *testing.T, ids ...int) {
	t.Helper()
	before := x.sight()
	for _, id := range ids {
		for _, n := range append([]int{-1, 0, 1, 2, 5, 65}, wild...) {
			b, e1 := x.s.Read(id, n, n)
			own, e2 := x.s.Own(n, n, id)
			holders, e3 := x.s.Holders(id)
			l := []error{e1, e2, e3, x.s.Hold(id), x.s.Drop(n, id), x.s.Write(id, n, ""), x.s.Write(id, n, strings.Repeat("x", 65))}
			if b != "" || own != 0 || holders != 0 || slices.ContainsFunc(l, func(err error) bool { return err != api.ErrNone }) {
				t.Fatalf("%d, %d: %q, %d, %d, %v", id, n, b, own, holders, l)
			}
		}
	}
	if x.sight() != before {
		t.Fatal(x.sight())
	}
}

// poolTake takes of the pool itself.
func (x rig) poolTake(t *testing.T, worker int) api.Object {
	t.Helper()
	o, err := x.p.Take(worker, 0)
	if err != nil {
		t.Fatal(worker, err)
	}
	return o
}

// wait lets so many others ask the pool, who find nothing.
func (x rig) wait(t *testing.T, n int) {
	t.Helper()
	for range n {
		if o, err := x.p.Take(0, 0); o != (api.Object{}) || err != api.ErrWait {
			t.Fatal(o, err)
		}
	}
}

func (x rig) waiting(t *testing.T, wants ...int) {
	t.Helper()
	if l := x.p.Waiting(); !slices.Equal(l, wants) {
		t.Fatalf("waiting: %v, want %v", l, wants)
	}
}

func TestNewErrors(t *testing.T) { // P70: ErrShape, then ErrBound; nothing is taken of the pool
	d, p := makePool(t, plan{[]int{4}, 0, 16, 2, 1})
	before := ground(d, p)
	for _, size := range append([]int{-1, 0, 65, 66, 128}, wild...) {
		if s, err := store.New(nil, size); s != nil || err != api.ErrShape {
			t.Error(size, err)
		}
		if s, err := store.New(p, size); s != nil || err != api.ErrBound || ground(d, p) != before {
			t.Error(size, err)
		}
	}
	for size := 1; size <= 64; size++ {
		if s, err := store.New(nil, size); s != nil || err != api.ErrShape {
			t.Error(size, err)
		}
	}
}

func TestNew(t *testing.T) { // P70, P72: from 1 to 64 bytes, whatever the objects have; it has no block yet
	for _, object := range []int{1, 16, 64} {
		for size := 1; size <= 64; size++ {
			d, p := makePool(t, plan{[]int{1}, 0, object, 1, 1})
			before := ground(d, p)
			s, err := store.New(p, size)
			if err != nil || s.Size() != size || s.Count() != 0 || len(s.IDs()) != 0 || ground(d, p) != before {
				t.Fatal(object, size, err)
			}
			x := rig{d, p, s}
			x.none(t, append([]int{-1, 0, 1, 2}, wild...)...)
			x.take(t, 1)
			x.bytes(t, 1, strings.Repeat("\x00", size))
			if b, err := s.Read(1, 0, size+1); b != "" || err != api.ErrBound {
				t.Fatal(object, size, err)
			}
		}
	}
}

func TestTake(t *testing.T) { // P70, P72: an object of the pool, zeros, one holder, numbers from 1 on
	x := start(t, 16)
	for n := 1; n <= 16; n++ {
		x.takes(t, n%3, 0, n)
		x.held(t, slices.Repeat([]int{1}, n)...)
		x.bytes(t, n, "\x00\x00\x00\x00")
		if x.out() != n {
			t.Fatal(n, x.sight())
		}
		x.none(t, 0, -n, n+1)
	}
	x.refused(t, 0, 0, api.ErrWait)
}

func TestTakeOfThePool(t *testing.T) { // P70: it is the pool's Take, of this worker, at this node
	x := build(t, plan{[]int{2, 4}, 0, 64, 3, 1}, 4)
	taken := func(want string) {
		t.Helper()
		if got := fmt.Sprint(x.d.Cache().Taken()); got != want {
			t.Fatalf("%s, want %s", got, want)
		}
	}
	x.takes(t, 0, 1, 1)
	taken("[{0 0} {1 0}]")
	x.takes(t, 0, 0, 2)
	taken("[{0 0} {0 64} {1 0}]")
	o, err := x.d.Take(0, 1, true)
	if o != (api.Object{Node: 1, At: 64}) || err != nil || x.d.Give(2, o) != nil {
		t.Fatal(o, err)
	}
	x.takes(t, 1, 1, 3)
	taken("[{0 0} {0 64} {1 0} {1 64} {1 128}]")
	x.takes(t, 2, 0, 4) // what worker 2 has at hand, wherever it is
	taken("[{0 0} {0 64} {1 0} {1 64} {1 128}]")
	x.takes(t, 0, 0, 5)
	taken("[{0 0} {0 64} {1 0} {1 64} {1 128} {1 192}]")
	x.takes(t, 0, 0, 6) // of the reserve
	taken("[{0 0} {0 64} {1 0} {1 64} {1 128} {1 192}]")
	if x.p.Reserve() != 0 || x.out() != 6 {
		t.Error(x.sight())
	}
	x.refused(t, 0, 0, api.ErrWait)
}

func TestTakeBounds(t *testing.T) { // P70: the pool's ErrBound, ahead of all: of worker, of node
	for workers := 1; workers <= 4; workers++ {
		x := build(t, plan{[]int{1, 1}, 0, 64, workers, 1}, 4)
		wrong := func() {
			t.Helper()
			for _, n := range append([]int{-1, 4, 5}, wild...) {
				x.refused(t, n, 0, api.ErrBound)
				x.refused(t, workers-1, n, api.ErrBound)
			}
			x.refused(t, workers, 0, api.ErrBound)
			x.refused(t, 0, 2, api.ErrBound)
		}
		wrong()
		x.takes(t, workers-1, 1, 1)
		x.take(t, 2)
		wrong()
		x.wait(t, 8)
		wrong()
	}
}

func TestTakeThatWouldWait(t *testing.T) { // P70: ErrWait: the ticket is cancelled at once; it is used up, the block's number is not
	x := start(t, 2)
	x.take(t, 1, 2)
	for range 20 { // more than may wait
		x.refused(t, 1, 0, api.ErrWait)
		x.waiting(t)
	}
	x.wait(t, 1)
	x.waiting(t, 21)
	for range 5 { // those who wait do so still
		x.refused(t, 2, 0, api.ErrWait)
		x.waiting(t, 21)
	}
	x.wait(t, 1)
	x.refused(t, 0, 0, api.ErrWait)
	x.waiting(t, 21, 27)
	x.drop(t, 0, 1)
	x.waiting(t, 27)
	x.refused(t, 0, 0, api.ErrWait) // what was given back is for who waited
	if o, ok, err := x.p.Ready(21); o != (api.Object{At: 64}) || !ok || err != nil {
		t.Fatal(o, ok, err)
	}
	x.drop(t, 0, 2)
	x.waiting(t)
	x.refused(t, 0, 0, api.ErrWait)
	if err := x.p.Cancel(27); err != nil {
		t.Fatal(err)
	}
	x.take(t, 3)
	x.held(t, 0, 0, 1)
}

func TestTakeWhereMostWait(t *testing.T) { // P70: ErrMany: of those who wait nobody goes
	x := start(t, 1)
	x.take(t, 1)
	x.wait(t, 7)
	x.refused(t, 0, 0, api.ErrWait)
	x.waiting(t, 1, 2, 3, 4, 5, 6, 7)
	x.wait(t, 1)
	for range 3 {
		x.refused(t, 0, 0, api.ErrMany)
		x.waiting(t, 1, 2, 3, 4, 5, 6, 7, 9)
	}
	x.hold(t, 1)
	before := x.sight()
	if k, err := x.s.Own(0, 0, 1); k != 0 || err != api.ErrMany || x.sight() != before {
		t.Error(k, err, x.sight())
	}
}

func TestTakeOfAClosedPool(t *testing.T) { // P70: the pool's ErrNone, ahead of bounds
	x := start(t, 2)
	x.take(t, 1)
	x.drop(t, 0, 1)
	if err := x.p.Close(); err != nil {
		t.Fatal(err)
	}
	late, err := store.New(x.p, 4)
	if err != nil {
		t.Fatal(err)
	}
	for _, s := range []*store.Store{x.s, late} {
		x.s = s
		for _, n := range append([]int{-1, 0, 1, 2, 3}, wild...) {
			x.refused(t, n, n, api.ErrNone)
		}
		x.none(t, 0, 1, 2)
		x.held(t)
	}
}

func TestTakeIsNotUrgent(t *testing.T) { // P70: behind the mark it gets what the reserve has, then nothing
	x := build(t, plan{[]int{8}, 4, 64, 1, 2}, 4)
	x.take(t, 1, 2, 3, 4)
	x.refused(t, 0, 0, api.ErrWait)
	if slabs := len(x.d.Cache().Slabs()); slabs != 4 {
		t.Error(slabs)
	}
}

func TestZerosAnew(t *testing.T) { // P70: all 0 at first, also where the object had other bytes
	x := build(t, plan{[]int{1}, 0, 64, 1, 1}, 3)
	for n := 1; n <= 20; n++ {
		x.take(t, n)
		x.bytes(t, n, "\x00\x00\x00")
		x.write(t, n, 0, "xyz")
		x.bytes(t, n, "xyz")
		x.drop(t, 0, n)
		x.none(t, n)
	}
}

func TestHold(t *testing.T) { // P70: up to 16 holders; ErrMany; ErrNone
	x := start(t, 2)
	x.take(t, 1, 2)
	for n := 2; n <= 16; n++ {
		x.hold(t, 1)
		x.held(t, n, 1)
	}
	before := x.sight()
	for range 3 {
		if err := x.s.Hold(1); err != api.ErrMany || x.sight() != before {
			t.Fatal(err, x.sight())
		}
	}
	x.drop(t, 0, 1)
	x.hold(t, 1, 2)
	x.held(t, 16, 2)
	if x.out() != 2 {
		t.Error(x.sight())
	}
}

func TestDrop(t *testing.T) { // P70: one holder less; without holders the block is gone, and its object is with the pool
	x := start(t, 3)
	x.take(t, 1, 2, 3)
	x.hold(t, 2, 2)
	x.drop(t, 1, 2)
	x.drop(t, 0, 2)
	x.held(t, 1, 1, 1)
	if x.out() != 3 || x.p.Reserve() != 0 {
		t.Error(x.sight())
	}
	x.drop(t, 2, 2)
	x.held(t, 1, 0, 1)
	x.none(t, 2)
	if x.out() != 2 || x.p.Reserve() != 1 {
		t.Error(x.sight())
	}
	x.drop(t, 2, 3)
	x.drop(t, 1, 1)
	x.held(t, 0, 0, 0)
	x.none(t, 1, 2, 3)
	x.take(t, 4)
	x.takes(t, 1, 0, 5)
	x.held(t, 0, 0, 0, 1, 1)
}

func TestDropByAWorker(t *testing.T) { // P70: the object is given back by this worker: it lies in that one's magazine
	x := start(t, 4)
	x.take(t, 1, 2, 3, 4) // the last one is of the reserve
	x.drop(t, 0, 4)
	x.drop(t, 1, 1)
	x.drop(t, 2, 3)
	for _, want := range []struct {
		worker int
		o      api.Object
	}{{2, api.Object{At: 192}}, {1, api.Object{At: 64}}, {0, api.Object{At: 0}}} {
		if o := x.poolTake(t, want.worker); o != want.o {
			t.Errorf("%v, want %+v", o, want)
		}
	}
	x.refused(t, 0, 0, api.ErrWait)
}

func TestDropWhereSomebodyWaits(t *testing.T) { // P70: who waits at the pool gets the object
	x := start(t, 1)
	x.take(t, 1)
	x.wait(t, 2)
	x.drop(t, 2, 1)
	x.waiting(t, 2)
	if o, ok, err := x.p.Ready(1); o != (api.Object{}) || !ok || err != nil {
		t.Error(o, ok, err)
	}
}

func TestDropErrors(t *testing.T) { // P70: ErrBound: worker, also where others hold the block still; nothing is changed
	for workers := 1; workers <= 4; workers++ {
		x := build(t, plan{[]int{2}, 0, 64, workers, 1}, 4)
		if n := x.s.Workers(); n != workers {
			t.Fatal(n, workers)
		}
		x.take(t, 1, 2)
		x.hold(t, 2)
		before := x.sight()
		for _, worker := range append([]int{-1, workers, workers + 1, 4, 5}, wild...) {
			for id := 1; id <= 2; id++ {
				if err := x.s.Drop(worker, id); err != api.ErrBound || x.sight() != before {
					t.Fatal(workers, worker, id, err, x.sight())
				}
			}
		}
		x.none(t, -1, 0, 3)
		x.drop(t, workers-1, 1, 2)
		x.held(t, 0, 1)
		x.none(t, 1)
	}
}

func TestGivenPast(t *testing.T) { // P70: what was given to the pool past the store is not given twice; the block stays till it is dropped
	x := start(t, 2)
	x.take(t, 1, 2)
	x.write(t, 2, 0, "abcd")
	if e1, e2 := x.p.Give(0, api.Object{At: 0}), x.p.Give(1, api.Object{At: 64}); e1 != nil || e2 != nil {
		t.Fatal(e1, e2)
	}
	x.held(t, 1, 1)
	x.bytes(t, 2, "abcd")
	under := ground(x.d, x.p)
	x.drop(t, 1, 2)
	x.held(t, 1)
	if ground(x.d, x.p) != under {
		t.Error(x.sight())
	}
	if err := x.p.Close(); err != nil {
		t.Fatal(err)
	}
	x.hold(t, 1)
	before := x.sight()
	if k, err := x.s.Own(0, 0, 1); k != 0 || err != api.ErrNone || x.sight() != before { // the pool's
		t.Error(k, err, x.sight())
	}
	if err := x.s.Drop(3, 1); err != api.ErrBound {
		t.Error(err)
	}
	x.drop(t, 2, 1, 1)
	x.held(t)
}

func TestReadAndWrite(t *testing.T) { // P71: each piece of a block, and nothing beside it
	for _, size := range []int{1, 2, 5, 64} {
		x := build(t, plan{[]int{2}, 0, 64, 1, 1}, size)
		x.take(t, 1, 2)
		want := make([]byte, size)
		k := 0
		for at := 0; at <= size; at++ {
			for n := 0; at+n <= size; n++ {
				b := make([]byte, n)
				for i := range b {
					k++
					b[i] = byte(k * 7)
				}
				x.write(t, 1, at, string(b))
				copy(want[at:], b)
				if got, err := x.s.Read(1, at, n); got != string(b) || err != nil {
					t.Fatalf("%d, %d, %d: %q, %v", size, at, n, got, err)
				}
				x.bytes(t, 1, string(want))
				x.bytes(t, 2, strings.Repeat("\x00", size))
			}
		}
		for at := 0; at <= size; at++ {
			for n := 0; at+n <= size; n++ {
				if got, err := x.s.Read(1, at, n); got != string(want[at:at+n]) || err != nil {
					t.Fatalf("%d, %d, %d: %q, %v", size, at, n, got, err)
				}
			}
		}
	}
}

func TestAllBytes(t *testing.T) { // P71: bytes, not letters: each of the 256
	x := build(t, plan{[]int{1}, 0, 64, 1, 1}, 64)
	x.take(t, 1)
	for from := 0; from < 256; from += 64 {
		b := make([]byte, 64)
		for i := range b {
			b[i] = byte(from + i)
		}
		x.write(t, 1, 0, string(b))
		x.bytes(t, 1, string(b))
		if got, err := x.s.Read(1, 63, 1); got != string(b[63:]) || err != nil {
			t.Errorf("%q, %v", got, err)
		}
	}
}

func TestReadErrors(t *testing.T) { // P71: ErrBound: bytes that it has not, also no bytes at all beside it
	x := start(t, 2)
	x.take(t, 1, 2)
	x.write(t, 1, 0, "abcd")
	x.hold(t, 2)
	before := x.sight()
	for id := 1; id <= 2; id++ {
		for _, at := range append([]int{-2, -1, 0, 1, 2, 3, 4, 5, 6}, wild...) {
			for _, n := range append([]int{-2, -1, 0, 1, 2, 3, 4, 5, 6}, wild...) {
				if at >= 0 && n >= 0 && at <= 4 && n <= 4 && at+n <= 4 {
					continue
				}
				if b, err := x.s.Read(id, at, n); b != "" || err != api.ErrBound {
					t.Fatalf("%d, %d, %d: %q, %v", id, at, n, b, err)
				}
			}
		}
		if b, err := x.s.Read(id, 4, 0); b != "" || err != nil {
			t.Fatal(b, err)
		}
	}
	if x.sight() != before {
		t.Error(x.sight())
	}
}

func TestWriteErrors(t *testing.T) { // P71: ErrBound, then ErrHeld; nothing is changed
	x := start(t, 2)
	x.take(t, 1, 2)
	x.write(t, 1, 0, "abcd")
	x.write(t, 2, 1, "ef")
	x.hold(t, 2)
	before := x.sight()
	wrong := func(id, at int, b string, want error) {
		t.Helper()
		if err := x.s.Write(id, at, b); err != want || x.sight() != before {
			t.Fatalf("%d, %d, %q: %v, want %v: %s", id, at, b, err, want, x.sight())
		}
	}
	for id := 1; id <= 2; id++ {
		for _, at := range append([]int{-2, -1, 5, 6}, wild...) {
			wrong(id, at, "", api.ErrBound)
			wrong(id, at, "x", api.ErrBound)
		}
		wrong(id, 3, "é", api.ErrBound) // two bytes
		wrong(id, 0, "éé!", api.ErrBound)
		for at := 0; at <= 5; at++ {
			wrong(id, at, "vwxyz"[at:]+"!", api.ErrBound)
			wrong(id, at, strings.Repeat("x", 1000), api.ErrBound)
		}
	}
	for at := 0; at <= 4; at++ {
		for n := 0; at+n <= 4; n++ {
			wrong(2, at, "wxyz"[:n], api.ErrHeld)
		}
	}
	x.drop(t, 0, 2)
	x.write(t, 2, 4, "")
	x.write(t, 2, 3, "g")
	x.bytes(t, 2, "\x00efg")
}

func TestOwnAlone(t *testing.T) { // P71: a block that one holds is its own; nothing is taken, whoever asks
	x := start(t, 1)
	x.take(t, 1)
	x.write(t, 1, 0, "abcd")
	before := x.sight()
	for _, n := range append([]int{-1, 0, 1, 2, 3, 4}, wild...) {
		x.own(t, n, n, 1, 1)
	}
	x.wait(t, 8)
	x.own(t, 0, 0, 1, 1)
	for ticket := 1; ticket <= 8; ticket++ {
		if err := x.p.Cancel(ticket); err != nil {
			t.Fatal(err)
		}
	}
	if x.sight() != before {
		t.Error(x.sight())
	}
	x.none(t, 0, 2)
}

func TestOwn(t *testing.T) { // P71, P73: a new block with the same bytes, and one holder less; what is written then is in one alone
	x := start(t, 4)
	x.take(t, 1)
	x.write(t, 1, 1, "bc")
	x.hold(t, 1, 1, 1)
	x.own(t, 0, 0, 1, 2)
	x.held(t, 3, 1)
	x.bytes(t, 2, "\x00bc\x00")
	x.bytes(t, 1, "\x00bc\x00")
	x.write(t, 2, 0, "ABC")
	x.bytes(t, 2, "ABC\x00")
	x.bytes(t, 1, "\x00bc\x00")
	x.own(t, 0, 0, 2, 2)
	x.own(t, 0, 0, 1, 3)
	x.held(t, 2, 1, 1)
	if x.out() != 3 {
		t.Error(x.sight())
	}
	if err := x.s.Write(1, 0, "x"); err != api.ErrHeld {
		t.Error(err)
	}
	x.own(t, 0, 0, 1, 4)
	x.held(t, 1, 1, 1, 1)
	x.own(t, 0, 0, 1, 1)
	x.write(t, 1, 0, "1234")
	for id, want := range []string{"1234", "ABC\x00", "\x00bc\x00", "\x00bc\x00"} {
		x.bytes(t, id+1, want)
	}
}

func TestOwnTakesThere(t *testing.T) { // P71: the new block is taken by this worker, at this node
	x := build(t, plan{[]int{4, 2}, 0, 64, 2, 1}, 4)
	x.take(t, 1)
	x.hold(t, 1, 1)
	x.own(t, 0, 1, 1, 2)
	if got := fmt.Sprint(x.d.Cache().Taken()); got != "[{0 0} {0 64} {1 0}]" {
		t.Error(got)
	}
	o := x.poolTake(t, 0)
	if err := x.d.Give(1, o); err != nil {
		t.Fatal(err)
	}
	x.own(t, 1, 1, 1, 3)
	x.held(t, 1, 1, 1)
	if workers, _ := x.d.Held(); workers != 0 || fmt.Sprint(x.d.Cache().Taken()) != "[{0 0} {0 64} {0 128} {1 0}]" {
		t.Error(x.sight())
	}
}

func TestOwnErrors(t *testing.T) { // P71: Take's errors where a new block is needed; nothing is changed
	x := start(t, 2)
	x.take(t, 1)
	x.write(t, 1, 0, "abcd")
	x.hold(t, 1)
	wrong := func(worker, node int, want error) {
		t.Helper()
		before := x.sight()
		if k, err := x.s.Own(worker, node, 1); k != 0 || err != want || x.sight() != before {
			t.Fatal(worker, node, k, err, x.sight())
		}
	}
	bounds := func() {
		t.Helper()
		for _, n := range append([]int{-1, 3, 4}, wild...) {
			wrong(n, 0, api.ErrBound)
			wrong(0, n, api.ErrBound)
		}
		wrong(2, 1, api.ErrBound)
	}
	bounds()
	x.take(t, 2)
	bounds()
	for range 20 {
		wrong(1, 0, api.ErrWait)
	}
	x.wait(t, 1)
	x.waiting(t, 21)
	wrong(0, 0, api.ErrWait)
	x.waiting(t, 21)
	if err := x.p.Cancel(21); err != nil {
		t.Fatal(err)
	}
	x.drop(t, 0, 2)
	x.own(t, 0, 0, 1, 3)
	x.held(t, 1, 0, 1)
	x.bytes(t, 3, "abcd")
}

func TestOwnOfMost(t *testing.T) { // P71: sixteen holders, one after the other, get a block of their own
	x := start(t, 16)
	x.take(t, 1)
	x.write(t, 1, 0, "most")
	for range 15 {
		x.hold(t, 1)
	}
	for n := 2; n <= 16; n++ {
		x.own(t, 0, 0, 1, n)
		x.write(t, n, 3, string(rune('A'+n)))
	}
	x.own(t, 0, 0, 1, 1)
	x.held(t, slices.Repeat([]int{1}, 16)...)
	x.bytes(t, 1, "most")
	for n := 2; n <= 16; n++ {
		x.bytes(t, n, "mos"+string(rune('A'+n)))
	}
}

func TestNumbersAreNew(t *testing.T) { // P70, P72: no number twice, whoever is gone; IDs are rising
	x := build(t, plan{[]int{8}, 0, 2, 1, 1}, 2)
	for n := 1; n <= 256; n++ {
		x.take(t, n)
	}
	x.refused(t, 0, 0, api.ErrWait)
	var wants []int
	for n := 1; n <= 256; n++ {
		if n%3 == 0 {
			wants = append(wants, n)
		} else {
			x.drop(t, 0, n)
		}
	}
	for n := 257; n <= 400; n++ {
		x.take(t, n)
		wants = append(wants, n)
	}
	if l := x.s.IDs(); !slices.Equal(l, wants) || x.s.Count() != len(wants) {
		t.Errorf("%d: %v", x.s.Count(), l)
	}
	for _, id := range wants {
		x.drop(t, 0, id)
	}
	x.held(t)
	x.take(t, 401)
}

func TestIDsAreNew(t *testing.T) { // P4: who writes into the answer changes nothing
	x := start(t, 3)
	x.take(t, 1, 2, 3)
	before := x.sight()
	clear(x.s.IDs())
	l := x.s.IDs()
	_ = append(l[:0:cap(l)], 7, 7, 7, 7)[:0]
	if x.sight() != before {
		t.Error(x.sight())
	}
}

func TestStoresOfOnePool(t *testing.T) { // P70: two stores of a pool have numbers and bytes of their own, and objects of the same ones
	x := start(t, 3)
	s, err := store.New(x.p, 2)
	if err != nil {
		t.Fatal(err)
	}
	y := rig{x.d, x.p, s}
	x.take(t, 1)
	y.take(t, 1, 2)
	x.write(t, 1, 0, "abcd")
	y.write(t, 1, 0, "xy")
	x.bytes(t, 1, "abcd")
	y.bytes(t, 1, "xy")
	y.bytes(t, 2, "\x00\x00")
	x.none(t, 2)
	x.refused(t, 0, 0, api.ErrWait)
	y.refused(t, 0, 0, api.ErrWait)
	y.drop(t, 0, 1)
	x.take(t, 2)
	y.refused(t, 0, 0, api.ErrWait)
	x.held(t, 1, 1)
	y.held(t, 0, 1)
}

func TestStoresThatNobodyMade(t *testing.T) { // P1: a pool that New did not make, and such a store, which might be handed over
	s, err := store.New(&pool.Pool{}, 4)
	if err != nil || s.Size() != 4 {
		t.Fatal(err)
	}
	for _, s := range []*store.Store{s, {}} {
		id, e1 := s.Take(0, 0)
		own, e2 := s.Own(0, 0, 1)
		b, e3 := s.Read(1, 0, 0)
		n, e4 := s.Holders(1)
		l := []error{e1, e2, e3, e4, s.Hold(1), s.Drop(0, 1), s.Write(1, 0, "")}
		if id != 0 || own != 0 || b != "" || n != 0 || slices.ContainsFunc(l, func(err error) bool { return err != api.ErrNone }) {
			t.Error(id, own, b, n, l)
		}
		if s.Count() != 0 || len(s.IDs()) != 0 || s.Workers() != 0 {
			t.Error(s.IDs(), s.Workers())
		}
	}
}
