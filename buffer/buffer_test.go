package buffer_test

import (
	"fmt"
	"math"
	"slices"
	"strings"
	"testing"

	"slabyard/api"
	"slabyard/buffer"
	"slabyard/magazine"
	"slabyard/pool"
	"slabyard/slab"
	"slabyard/store"
	"slabyard/zone"
)

// wild are numbers far from all that is asked for.
var wild = []int{math.MinInt, math.MinInt + 1, -1 << 32, 1 << 32, 1<<32 + 1, math.MaxInt - 1, math.MaxInt}

// who asks most of the time.
var who = buffer.Who{}

// rig is a yard, and what it is made of.
type rig struct {
	d *magazine.Depot
	p *pool.Pool
	s *store.Store
	y *buffer.Yard
}

// plan of a rig: of which nodes, with which marks, of which objects, for how many workers, with which reserve, and of which blocks.
type plan struct {
	pages                                []int
	least, object, workers, spares, size int
}

// nodes are as many as pages, each as far from each other one.
func nodes(least int, pages ...int) zone.Config {
	c := zone.Config{Pages: pages, Marks: api.Marks{Min: least, Low: least, High: least}}
	for i := range pages {
		far := slices.Repeat([]int{1}, len(pages))
		far[i] = 0
		c.Near = append(c.Near, far)
	}
	return c
}

// build a rig by a plan.
func build(t *testing.T, x plan) rig {
	t.Helper()
	z, e1 := zone.New(nodes(x.least, x.pages...))
	c, e2 := slab.New(z, x.object)
	d, e3 := magazine.New(c, x.workers)
	p, e4 := pool.New(d, 0, x.spares)
	s, e5 := store.New(p, x.size)
	y, e6 := buffer.New(s)
	if e1 != nil || e2 != nil || e3 != nil || e4 != nil || e5 != nil || e6 != nil || y == nil {
		t.Fatal(x, e1, e2, e3, e4, e5, e6)
	}
	return rig{d, p, s, y}
}

// start makes a rig of as many blocks as pages, of 4 bytes each, for three workers: one of them is in the reserve.
func start(t *testing.T, pages int) rig {
	t.Helper()
	return build(t, plan{[]int{pages}, 0, 64, 3, 1, 4})
}

// wide makes a rig of 256 blocks of so many bytes.
func wide(t *testing.T, size int) rig {
	t.Helper()
	return build(t, plan{[]int{256}, 0, 64, 2, 1, size})
}

// ground is all that can be told of a store and what it is made of without changing them.
func ground(d *magazine.Depot, p *pool.Pool, s *store.Store) string {
	workers, pile := d.Held()
	l := s.IDs()
	text := fmt.Sprint(p.Waiting(), p.Reserve(), workers, pile, d.Cache().Slabs(), d.Cache().Taken(), s.Count(), l)
	for _, id := range l {
		b, e1 := s.Read(id, 0, s.Size())
		n, e2 := s.Holders(id)
		text += fmt.Sprintf("; %q %v %v %v", b, e1, n, e2)
	}
	return text
}

// sight is all that can be told of a rig without changing it.
func (x rig) sight() string {
	l := x.y.IDs()
	text := fmt.Sprint(l)
	for _, id := range l {
		n, e1 := x.y.Len(id)
		parts, e2 := x.y.Parts(id)
		b, e3 := x.y.Read(id, 0, n)
		text += fmt.Sprintf("; %d %v %d %v %q %v", n, e1, parts, e2, b, e3)
	}
	return text + "; " + ground(x.d, x.p, x.s)
}

// make holds which number the new buffer has.
func (x rig) make(t *testing.T, text string, want int) {
	t.Helper()
	if id, err := x.y.Make(who, text); id != want || err != nil {
		t.Fatalf("make %q: %d, %v, want %d", text, id, err, want)
	}
}

func (x rig) clone(t *testing.T, id, at, n, want int) {
	t.Helper()
	if k, err := x.y.Clone(id, at, n); k != want || err != nil {
		t.Fatalf("clone %d, %d, %d: %d, %v, want %d", id, at, n, k, err, want)
	}
}

func (x rig) split(t *testing.T, id, at, want int) {
	t.Helper()
	if k, err := x.y.Split(id, at); k != want || err != nil {
		t.Fatalf("split %d, %d: %d, %v, want %d", id, at, k, err, want)
	}
}

func (x rig) join(t *testing.T, a, b int) {
	t.Helper()
	if err := x.y.Join(a, b); err != nil {
		t.Fatal(a, b, err)
	}
}

func (x rig) write(t *testing.T, id, at int, text string) {
	t.Helper()
	if err := x.y.Write(who, id, at, text); err != nil {
		t.Fatal(id, at, text, err)
	}
}

func (x rig) pull(t *testing.T, id, n int) {
	t.Helper()
	if err := x.y.Pull(who, id, n); err != nil {
		t.Fatal(id, n, err)
	}
}

func (x rig) free(t *testing.T, ids ...int) {
	t.Helper()
	for _, id := range ids {
		if err := x.y.Free(who, id); err != nil {
			t.Fatal(id, err)
		}
	}
}

// is holds bytes and parts of a buffer against what is wanted.
func (x rig) is(t *testing.T, id int, want string, parts int) {
	t.Helper()
	n, e1 := x.y.Len(id)
	b, e2 := x.y.Read(id, 0, n)
	k, e3 := x.y.Parts(id)
	if n != len(want) || b != want || k != parts || e1 != nil || e2 != nil || e3 != nil {
		t.Fatalf("%d: %d, %q, %d, %v, %v, %v, want %q, %d", id, n, b, k, e1, e2, e3, want, parts)
	}
}

// held holds how many hold each of the store's blocks from 1 on; 0: it is not there.
func (x rig) held(t *testing.T, wants ...int) {
	t.Helper()
	var ids []int
	for i, want := range wants {
		n, err := x.s.Holders(i + 1)
		if n != want || (err == nil) != (want > 0) {
			t.Fatalf("block %d: %d, %v, want %d: %s", i+1, n, err, want, x.sight())
		}
		if want > 0 {
			ids = append(ids, i+1)
		}
	}
	if l := x.s.IDs(); !slices.Equal(l, ids) {
		t.Fatalf("blocks %v, want %v", l, ids)
	}
}

// there holds which buffers there are.
func (x rig) there(t *testing.T, wants ...int) {
	t.Helper()
	if l := x.y.IDs(); !slices.Equal(l, wants) {
		t.Fatalf("%v, want %v", l, wants)
	}
}

// refused holds that a call answered this error, and has changed nothing.
func (x rig) refused(t *testing.T, want error, call func() (int, error)) {
	t.Helper()
	before := x.sight()
	if n, err := call(); n != 0 || err != want {
		t.Fatalf("%d, %v, want %v", n, err, want)
	}
	if after := x.sight(); after != before {
		t.Fatalf("%s, was %s", after, before)
	}
}

// stale holds that there are no such buffers, for no call, and nothing is changed by asking.
func (x rig) stale(t *testing.T, ids ...int) {
	t.Helper()
	before := x.sight()
	for _, id := range ids {
		for _, n := range append([]int{-1, 0, 1, 2, 5, 65, 601}, wild...) {
			w := buffer.Who{Worker: n, Node: n}
			b, e1 := x.y.Read(id, n, n)
			size, e2 := x.y.Len(id)
			clone, e3 := x.y.Clone(id, n, n)
			split, e4 := x.y.Split(id, n)
			parts, e5 := x.y.Parts(id)
			l := []error{e1, e2, e3, e4, e5, x.y.Free(w, id), x.y.Write(w, id, n, "x"), x.y.Write(w, id, n, ""), x.y.Pull(w, id, n)}
			l = append(l, x.y.Join(id, id), x.y.Join(id, n), x.y.Join(n, id), x.y.Join(id, 1), x.y.Join(1, id))
			if b != "" || size+clone+split+parts != 0 || slices.ContainsFunc(l, func(err error) bool { return err != api.ErrStale }) {
				t.Fatalf("%d, %d: %q, %d, %d, %d, %d, %v", id, n, b, size, clone, split, parts, l)
			}
		}
	}
	if x.sight() != before {
		t.Fatal(x.sight())
	}
}

// wait lets others take all that the pool has, and so many wait then. It answers what they have got.
func (x rig) wait(t *testing.T, n int) []api.Object {
	t.Helper()
	var l []api.Object
	for n > 0 {
		o, err := x.p.Take(0, 0)
		switch err {
		case nil:
			l = append(l, o)
		case api.ErrWait:
			n--
		default:
			t.Fatal(err)
		}
	}
	return l
}

// letters are so many, from a on, over and over.
func letters(n int) string {
	b := make([]byte, n)
	for i := range b {
		b[i] = byte('a' + i%26)
	}
	return string(b)
}

func TestNew(t *testing.T) { // P80: ErrShape; a new yard has no buffers, and takes nothing of the store
	if y, err := buffer.New(nil); y != nil || err != api.ErrShape {
		t.Error(y, err)
	}
	x := start(t, 3)
	if _, err := x.s.Take(0, 0); err != nil {
		t.Fatal(err)
	}
	before := ground(x.d, x.p, x.s)
	y, err := buffer.New(x.s)
	if y == nil || err != nil || ground(x.d, x.p, x.s) != before {
		t.Fatal(err)
	}
	x.y = y
	x.there(t)
	x.stale(t, append([]int{-1, 0, 1, 2}, wild...)...)
	x.make(t, "abc", 1)
}

func TestMake(t *testing.T) { // P80, P81, P84: numbers from 1 on; new blocks, each but the last one full
	for _, size := range []int{1, 2, 5, 16, 50, 51, 64} {
		for n := 0; n <= min(600, 12*size); n++ {
			if n > 40 && n%size > 1 && n < 12*size-2 && n < 598 {
				continue
			}
			x := wide(t, size)
			text := letters(n)
			parts := (n + size - 1) / size
			x.make(t, "", 1)
			x.make(t, text, 2)
			x.is(t, 2, text, parts)
			x.held(t, slices.Repeat([]int{1}, parts)...)
			for k := range parts {
				want := text[k*size : min(n, (k+1)*size)]
				want += strings.Repeat("\x00", size-len(want))
				if b, err := x.s.Read(k+1, 0, size); b != want || err != nil {
					t.Fatalf("%d, %d, %d: %q, %v, want %q", size, n, k, b, err, want)
				}
			}
			x.make(t, text[:min(n, 1)], 3)
			x.there(t, 1, 2, 3)
			x.stale(t, 0, 4)
		}
	}
}

func TestMakeThere(t *testing.T) { // P80, P81: blocks are taken by this worker, at this node
	x := build(t, plan{[]int{4, 4}, 0, 64, 3, 1, 4})
	taken := func(want string) {
		t.Helper()
		if got := fmt.Sprint(x.d.Cache().Taken()); got != want {
			t.Fatalf("%s, want %s", got, want)
		}
	}
	taken("[{0 0}]")
	o, err := x.d.Take(0, 0, false)
	if err != nil || x.d.Give(2, o) != nil {
		t.Fatal(err)
	}
	if id, err := x.y.Make(buffer.Who{Worker: 1, Node: 1}, "abcdefgh"); id != 1 || err != nil {
		t.Fatal(id, err)
	}
	taken("[{0 0} {0 64} {1 0} {1 64}]")
	if id, err := x.y.Make(buffer.Who{Worker: 2, Node: 1}, "abcdef"); id != 2 || err != nil { // what worker 2 has at hand goes first
		t.Fatal(id, err)
	}
	taken("[{0 0} {0 64} {1 0} {1 64} {1 128}]")
	if workers, _ := x.d.Held(); workers != 0 {
		t.Error(x.sight())
	}
}

func TestMakeOfNothing(t *testing.T) { // P81: nothing is taken: a buffer without parts, whoever asks, whoever waits
	x := start(t, 1)
	x.wait(t, 8)
	before := ground(x.d, x.p, x.s)
	for i, n := range append([]int{-1, 0, 1, 2, 3, 4}, wild...) {
		if id, err := x.y.Make(buffer.Who{Worker: n, Node: n}, ""); id != i+1 || err != nil {
			t.Fatal(id, err)
		}
		x.is(t, i+1, "", 0)
	}
	if ground(x.d, x.p, x.s) != before {
		t.Error(x.sight())
	}
}

func TestMakeErrors(t *testing.T) { // P81: ErrBound, ErrFull, ErrMany, the store's; nothing is changed, no number is used up
	made := func(x rig, w buffer.Who, n int, want error) {
		t.Helper()
		x.refused(t, want, func() (int, error) { return x.y.Make(w, letters(n)) })
	}
	none := buffer.Who{Worker: 3, Node: 1}
	for _, size := range []int{1, 4, 16, 49, 50, 51, 64} {
		x := build(t, plan{[]int{16}, 0, 64, 3, 1, size})
		most := min(600, 12*size)
		all := func(many, end error) {
			t.Helper()
			for _, w := range []buffer.Who{who, none} {
				made(x, w, 601, api.ErrBound)
				made(x, w, 2000, api.ErrBound)
				for n := most + 1; n <= 600; n += 1 + n/20 {
					made(x, w, n, many)
				}
				if most < 600 {
					made(x, w, 600, many)
				}
			}
			for _, w := range []buffer.Who{{Worker: -1}, {Worker: 3}, {Node: -1}, {Node: 1}, none} {
				made(x, w, 1, end)
				made(x, w, most, end)
			}
		}
		all(api.ErrMany, api.ErrBound)
		x.make(t, letters(most), 1)
		for id := 2; id <= 39; id++ {
			x.make(t, "", id)
		}
		all(api.ErrMany, api.ErrBound)
		x.make(t, "", 40)
		all(api.ErrFull, api.ErrFull)
		made(x, who, 0, api.ErrFull)
		x.free(t, 7)
		x.make(t, "a", 41)
	}
}

func TestMakeThatLacks(t *testing.T) { // P81: what was taken is let go by this worker, from the first on; block numbers are used up
	x := start(t, 4)
	x.make(t, "abcdef", 1)
	before := len(x.d.Cache().Slabs())
	if id, err := x.y.Make(buffer.Who{Worker: 1}, "0123456789"); id != 0 || err != api.ErrWait {
		t.Fatal(id, err)
	}
	x.there(t, 1)
	x.is(t, 1, "abcdef", 2)
	x.held(t, 1, 1)
	if workers, pile := x.d.Held(); workers != 1 || pile != 0 || x.p.Reserve() != 1 || len(x.p.Waiting()) != 0 {
		t.Fatal(x.sight())
	}
	if l := x.d.Cache().Slabs(); before != 3 || len(l) != 4 {
		t.Error(before, l)
	}
	// Block 3 went first: into the reserve. Block 4 lies in worker 1's magazine.
	if o, err := x.p.Take(1, 0); o != (api.Object{At: 0}) || err != nil {
		t.Error(o, err)
	}
	if o, err := x.p.Take(0, 0); o != (api.Object{At: 192}) || err != nil {
		t.Error(o, err)
	}
	x.free(t, 1)
	x.make(t, "a", 2) // no number of a buffer was used up
	if l := x.s.IDs(); !slices.Equal(l, []int{5}) {
		t.Error(l)
	}
}

func TestMakeThatLacksInLine(t *testing.T) { // P81: magazines of who asked have what was let go, in the order of the parts
	x := build(t, plan{[]int{8}, 0, 64, 2, 1, 4})
	if id, err := x.y.Make(buffer.Who{Worker: 1}, letters(33)); id != 0 || err != api.ErrWait {
		t.Fatal(id, err)
	}
	x.held(t)
	var l []int
	for range 8 {
		o, err := x.p.Take(1, 0)
		if err != nil {
			t.Fatal(err)
		}
		l = append(l, o.At)
	}
	// The first one went into the reserve, four into one magazine, the last three into the other one: the last one of all was of the
	// reserve ahead.
	if want := []int{0, 448, 384, 320, 256, 192, 128, 64}; !slices.Equal(l, want) {
		t.Errorf("%v, want %v", l, want)
	}
}

func TestMakeByThePool(t *testing.T) { // P81: the store's errors: ErrMany where most wait, ErrNone where the pool is closed
	x := start(t, 2)
	l := x.wait(t, 8)
	x.refused(t, api.ErrMany, func() (int, error) { return x.y.Make(who, "a") })
	for ticket := range 8 {
		if err := x.p.Cancel(ticket + 1); err != nil {
			t.Fatal(err)
		}
	}
	x.refused(t, api.ErrWait, func() (int, error) { return x.y.Make(who, "a") })
	for _, o := range l {
		if err := x.p.Give(0, o); err != nil {
			t.Fatal(err)
		}
	}
	x.make(t, "a", 1)
	x.free(t, 1)
	x.make(t, "", 2)
	if err := x.p.Close(); err != nil {
		t.Fatal(err)
	}
	x.refused(t, api.ErrNone, func() (int, error) { return x.y.Make(who, "a") })
	x.refused(t, api.ErrNone, func() (int, error) { return x.y.Make(buffer.Who{Worker: 9}, "a") })
	x.refused(t, api.ErrMany, func() (int, error) { return x.y.Make(who, letters(49)) })
	x.refused(t, api.ErrBound, func() (int, error) { return x.y.Make(who, letters(601)) })
	x.make(t, "", 3)
	x.free(t, 2, 3)
}

func TestRead(t *testing.T) { // P81: each piece, also over several parts; ErrBound: bytes that it has not
	x := start(t, 16)
	x.make(t, letters(11), 1)
	x.make(t, "XYZ", 2)
	x.split(t, 1, 6, 3)
	x.join(t, 3, 1)
	x.join(t, 3, 2) // bytes 6 to 10, 0 to 5, and three more: of blocks 2, 3, 1, 2, 4
	text := "ghijk" + "abcdef" + "XYZ"
	x.is(t, 3, text, 5)
	before := x.sight()
	for _, at := range append([]int{-2, -1, 0, 1, 2, 3, 4, 5, 6, 7, 8, 9, 10, 11, 12, 13, 14, 15}, wild...) {
		for _, n := range append([]int{-2, -1, 0, 1, 2, 3, 4, 5, 6, 7, 8, 9, 10, 11, 12, 13, 14, 15}, wild...) {
			b, err := x.y.Read(3, at, n)
			if at >= 0 && n >= 0 && at <= 14 && n <= 14 && at+n <= 14 {
				if b != text[at:at+n] || err != nil {
					t.Fatalf("%d, %d: %q, %v", at, n, b, err)
				}
			} else if b != "" || err != api.ErrBound {
				t.Fatalf("%d, %d: %q, %v", at, n, b, err)
			}
		}
	}
	if x.sight() != before {
		t.Error(x.sight())
	}
}

func TestAllBytes(t *testing.T) { // P81, P83: bytes, not letters: each of the 256
	x := wide(t, 64)
	b := make([]byte, 256)
	for i := range b {
		b[i] = byte(i)
	}
	x.make(t, string(b), 1)
	x.is(t, 1, string(b), 4)
	slices.Reverse(b)
	x.write(t, 1, 0, string(b))
	x.is(t, 1, string(b), 4)
}

func TestFree(t *testing.T) { // P81: it is gone, its blocks have one holder less, and go with the last one
	x := start(t, 8)
	x.make(t, letters(10), 1)
	x.clone(t, 1, 5, 5, 2)
	x.held(t, 1, 2, 2)
	x.free(t, 1)
	x.held(t, 0, 1, 1)
	x.stale(t, 1)
	x.there(t, 2)
	x.is(t, 2, "fghij", 2)
	x.free(t, 2)
	x.held(t)
	x.there(t)
	x.stale(t, 1, 2)
	x.make(t, "", 3)
	x.free(t, 3)
	x.make(t, "x", 4)
	x.there(t, 4)
}

func TestFreeByAWorker(t *testing.T) { // P81: by this worker, from the first part on
	x := build(t, plan{[]int{8}, 0, 64, 2, 2, 4})
	x.make(t, letters(16), 1) // {0 128}, {0 192}, {0 256}, {0 320}
	x.make(t, letters(12), 2) // {0 384}, {0 448}, and {0 64}, of the reserve
	if err := x.y.Free(buffer.Who{Worker: 1, Node: 7}, 1); err != nil {
		t.Fatal(err)
	}
	var l []int
	for range 4 {
		o, err := x.p.Take(1, 0)
		if err != nil {
			t.Fatal(err)
		}
		l = append(l, o.At)
	}
	// The first one went to where the reserve lacked one.
	if want := []int{320, 256, 192, 128}; !slices.Equal(l, want) {
		t.Errorf("%v, want %v", l, want)
	}
}

func TestFreeErrors(t *testing.T) { // P81: ErrStale, then ErrBound: the worker is none, also where nothing would be given back
	for workers := 1; workers <= 4; workers++ {
		x := build(t, plan{[]int{4}, 0, 64, workers, 1, 4})
		x.make(t, letters(6), 1)
		x.make(t, "", 2)
		x.clone(t, 1, 0, 6, 3)
		for _, n := range append([]int{-1, workers, workers + 1, 4, 5}, wild...) {
			for id := 1; id <= 3; id++ {
				x.refused(t, api.ErrBound, func() (int, error) { return 0, x.y.Free(buffer.Who{Worker: n}, id) })
			}
		}
		x.stale(t, -1, 0, 4)
		for id := 1; id <= 3; id++ { // the node is of no matter
			if err := x.y.Free(buffer.Who{Worker: workers - 1, Node: -1}, id); err != nil {
				t.Error(err)
			}
		}
		x.held(t)
	}
}

func TestClone(t *testing.T) { // P82: each piece: the same blocks, a holder more for each part, and no byte is copied
	for at := 0; at <= 11; at++ {
		for n := 0; at+n <= 11; n++ {
			x := start(t, 8)
			text := letters(11)
			x.make(t, text, 1)
			before := ground(x.d, x.p, x.s)
			x.clone(t, 1, at, n, 2)
			parts := 0
			holders := []int{1, 1, 1}
			for k := range holders {
				if n > 0 && at < (k+1)*4 && at+n > k*4 {
					holders[k]++
					parts++
				}
			}
			x.is(t, 2, text[at:at+n], parts)
			x.is(t, 1, text, 3)
			x.held(t, holders...)
			x.free(t, 2)
			if ground(x.d, x.p, x.s) != before {
				t.Error(at, n, x.sight())
			}
		}
	}
}

func TestCloneOfAClone(t *testing.T) { // P82: of parts that are cut, also where a block is of several
	x := start(t, 8)
	x.make(t, letters(12), 1)
	x.clone(t, 1, 3, 7, 2)
	x.is(t, 2, "defghij", 3)
	x.clone(t, 2, 2, 4, 3)
	x.is(t, 3, "fghi", 2)
	x.clone(t, 3, 1, 1, 4)
	x.is(t, 4, "g", 1)
	x.held(t, 2, 4, 3)
	x.join(t, 3, 4)
	x.clone(t, 3, 1, 4, 5) // "ghi" and "g": of block 2 twice
	x.is(t, 5, "ghig", 3)
	x.held(t, 2, 6, 4)
	x.free(t, 3, 2, 1)
	x.held(t, 0, 2, 1)
	x.is(t, 5, "ghig", 3)
}

func TestCloneErrors(t *testing.T) { // P82: ErrStale, ErrBound, ErrFull, ErrMany; nothing is changed
	x := start(t, 16)
	x.make(t, letters(11), 1)
	x.make(t, "", 2)
	cloned := func(want error, id, at, n int) {
		t.Helper()
		x.refused(t, want, func() (int, error) { return x.y.Clone(id, at, n) })
	}
	bounds := func() {
		t.Helper()
		for _, n := range append([]int{-1, 12}, wild...) {
			cloned(api.ErrBound, 1, n, 0)
			cloned(api.ErrBound, 1, 0, n)
			cloned(api.ErrBound, 1, n, n)
			cloned(api.ErrBound, 2, n, 0)
			cloned(api.ErrBound, 2, 0, n)
		}
		for at := range 12 {
			cloned(api.ErrBound, 1, at, 12-at)
		}
		cloned(api.ErrBound, 2, 0, 1)
	}
	bounds()
	for id := 3; id <= 17; id++ {
		x.clone(t, 1, 4, 4, id)
	}
	x.held(t, 1, 16, 1)
	bounds()
	for at := 0; at <= 7; at++ { // the blocks ahead of the one of most holders are let go
		cloned(api.ErrMany, 1, at, 11-at)
		cloned(api.ErrMany, 1, at, 8-at)
	}
	cloned(api.ErrMany, 17, 3, 1)
	x.clone(t, 1, 0, 4, 18)
	x.clone(t, 1, 8, 3, 19)
	x.clone(t, 1, 5, 0, 20)
	for id := 21; id <= 40; id++ {
		x.make(t, "", id)
	}
	bounds()
	cloned(api.ErrFull, 1, 0, 0)
	cloned(api.ErrFull, 1, 0, 1)
	cloned(api.ErrFull, 1, 0, 11) // ahead of ErrMany
	x.stale(t, -1, 0, 41)
	x.free(t, 17)
	x.clone(t, 1, 0, 11, 41) // no number was used up
	x.held(t, 3, 16, 3)
}

func TestCloneOfTwice(t *testing.T) { // P82: ErrMany where the second part of a block finds most holders: what the first one held is let go
	x := start(t, 8)
	x.make(t, "abcd", 1)
	x.clone(t, 1, 0, 4, 2)
	x.join(t, 1, 2) // block 1 twice
	for id := 3; id <= 15; id++ {
		x.clone(t, 1, 0, 1, id)
	}
	x.held(t, 15)
	x.refused(t, api.ErrMany, func() (int, error) { return x.y.Clone(1, 0, 8) })
	x.refused(t, api.ErrMany, func() (int, error) { return x.y.Clone(1, 3, 2) })
	x.clone(t, 1, 4, 4, 16)
	x.held(t, 16)
}

func TestJoin(t *testing.T) { // P82: b's parts go behind a's; b is gone
	x := start(t, 16)
	x.make(t, "abcdef", 1)
	x.make(t, "ghi", 2)
	x.make(t, "", 3)
	x.make(t, "jklmno", 4)
	before := ground(x.d, x.p, x.s)
	x.join(t, 4, 2)
	x.is(t, 4, "jklmnoghi", 3)
	x.there(t, 1, 3, 4)
	x.stale(t, 2)
	x.join(t, 1, 4)
	x.is(t, 1, "abcdefjklmnoghi", 5)
	x.join(t, 1, 3)
	x.is(t, 1, "abcdefjklmnoghi", 5)
	x.make(t, "", 5)
	x.join(t, 5, 1)
	x.is(t, 5, "abcdefjklmnoghi", 5)
	x.there(t, 5)
	x.stale(t, 1, 2, 3, 4)
	if ground(x.d, x.p, x.s) != before {
		t.Error(x.sight())
	}
	x.free(t, 5)
	x.held(t)
}

func TestJoinOfNeighbours(t *testing.T) { // P82: parts stay as they are, also where they lie side by side in a block
	x := start(t, 8)
	x.make(t, "abcd", 1)
	x.split(t, 1, 1, 2)
	x.split(t, 2, 1, 3)
	x.held(t, 3)
	x.join(t, 2, 3)
	x.join(t, 1, 2)
	x.is(t, 1, "abcd", 3)
	x.held(t, 3)
	x.free(t, 1)
	x.held(t)
}

func TestJoinErrors(t *testing.T) { // P82: ErrStale, ErrHeld, ErrBound, ErrMany; nothing is changed
	x := build(t, plan{[]int{60}, 0, 64, 1, 1, 64})
	joined := func(want error, a, b int) {
		t.Helper()
		x.refused(t, want, func() (int, error) { return 0, x.y.Join(a, b) })
	}
	x.make(t, letters(600), 1)
	x.make(t, "z", 2)
	x.make(t, letters(300), 3)
	x.make(t, letters(301), 4)
	x.make(t, "", 5)
	x.make(t, letters(12), 6)
	for id := 1; id <= 6; id++ {
		joined(api.ErrHeld, id, id)
	}
	joined(api.ErrBound, 1, 2)
	joined(api.ErrBound, 2, 1)
	joined(api.ErrBound, 3, 4)
	joined(api.ErrBound, 4, 3)
	x.join(t, 1, 5)
	x.pull(t, 4, 1)
	x.join(t, 3, 4) // 600 bytes
	x.is(t, 3, letters(300)+letters(301)[1:], 10)
	for id := 7; id <= 17; id++ { // twelve parts of a byte each
		x.clone(t, 6, 0, 1, id)
		x.join(t, 2, id)
	}
	x.is(t, 2, "z"+strings.Repeat("a", 11), 12)
	joined(api.ErrMany, 2, 6)
	joined(api.ErrMany, 6, 2)
	joined(api.ErrBound, 1, 2) // ahead of ErrMany
	joined(api.ErrHeld, 2, 2)
	x.stale(t, 4, 5)
	x.pull(t, 2, 1)
	x.join(t, 6, 2)
	x.is(t, 6, letters(12)+strings.Repeat("a", 11), 12)
}

func TestSplit(t *testing.T) { // P82: at each place; a part that is cut is held by both
	for at := 0; at <= 11; at++ {
		x := start(t, 8)
		text := letters(11)
		x.make(t, text, 1)
		x.split(t, 1, at, 2)
		holders := []int{1, 1, 1}
		if at%4 > 0 && at < 11 {
			holders[at/4]++
		}
		x.is(t, 1, text[:at], (at+3)/4)
		x.is(t, 2, text[at:], 3-at/4-at/11)
		x.held(t, holders...)
		x.there(t, 1, 2)
		x.write(t, 1, 0, strings.ToUpper(text[:at]))
		x.is(t, 2, text[at:], 3-at/4-at/11)
		x.join(t, 1, 2)
		x.is(t, 1, strings.ToUpper(text[:at])+text[at:], holders[0]+holders[1]+holders[2])
		x.free(t, 1)
		x.held(t)
	}
}

func TestSplitTwice(t *testing.T) { // P82: what is put behind the one is not seen in the other one
	x := start(t, 12)
	x.make(t, letters(16), 1)
	x.split(t, 1, 8, 2)
	x.make(t, "XY", 3)
	x.join(t, 1, 3)
	x.is(t, 1, "abcdefghXY", 3)
	x.is(t, 2, "ijklmnop", 2)
	x.split(t, 2, 0, 4)
	x.is(t, 2, "", 0)
	x.is(t, 4, "ijklmnop", 2)
	x.split(t, 4, 8, 5)
	x.is(t, 4, "ijklmnop", 2)
	x.is(t, 5, "", 0)
	x.split(t, 5, 0, 6)
	x.split(t, 4, 2, 7)
	x.split(t, 7, 1, 8)
	x.is(t, 4, "ij", 1)
	x.is(t, 7, "k", 1)
	x.is(t, 8, "lmnop", 2)
	x.held(t, 1, 1, 3, 1, 1)
	x.there(t, 1, 2, 4, 5, 6, 7, 8)
}

func TestSplitErrors(t *testing.T) { // P82: ErrStale, ErrBound, ErrFull, ErrMany; nothing is changed
	x := start(t, 16)
	x.make(t, letters(11), 1)
	x.make(t, "", 2)
	splits := func(want error, id, at int) {
		t.Helper()
		x.refused(t, want, func() (int, error) { return x.y.Split(id, at) })
	}
	bounds := func() {
		t.Helper()
		for _, n := range append([]int{-1, 12, 13}, wild...) {
			splits(api.ErrBound, 1, n)
			splits(api.ErrBound, 2, n)
		}
		splits(api.ErrBound, 2, 1)
	}
	bounds()
	for id := 3; id <= 17; id++ {
		x.clone(t, 1, 4, 4, id)
	}
	x.held(t, 1, 16, 1)
	bounds()
	for at := 5; at <= 7; at++ {
		splits(api.ErrMany, 1, at)
	}
	splits(api.ErrMany, 17, 1)
	x.split(t, 1, 4, 18) // nothing is cut
	x.split(t, 18, 4, 19)
	x.split(t, 3, 4, 20)
	x.is(t, 18, "efgh", 1)
	x.is(t, 19, "ijk", 1)
	x.held(t, 1, 16, 1)
	splits(api.ErrMany, 18, 2)
	for id := 21; id <= 40; id++ {
		x.make(t, "", id)
	}
	for at := range 5 {
		splits(api.ErrFull, 1, at)
		splits(api.ErrFull, 18, at) // ahead of ErrMany
	}
	splits(api.ErrBound, 1, 5) // ahead of ErrFull
	x.stale(t, -1, 0, 41)
	x.free(t, 17)
	x.split(t, 18, 2, 41)
	x.held(t, 1, 16, 1)
}

func TestWrite(t *testing.T) { // P83: each piece, where nobody else holds a block: nothing is taken
	for at := 0; at <= 11; at++ {
		for n := 0; at+n <= 11; n++ {
			x := start(t, 4)
			text := letters(11)
			x.make(t, text, 1)
			b := strings.ToUpper(text[11-n:])
			x.write(t, 1, at, b)
			x.is(t, 1, text[:at]+b+text[at+n:], 3)
			x.held(t, 1, 1, 1)
		}
	}
}

func TestWriteOfShared(t *testing.T) { // P83, P85: each part that is touched gets a block of its own, from the first on; others see nothing
	for at := 0; at <= 11; at++ {
		for n := 0; at+n <= 11; n++ {
			for k := 1; k <= 2; k++ { // whoever of the two is written
				x := start(t, 7)
				text := letters(11)
				x.make(t, text, 1)
				x.clone(t, 1, 0, 11, 2)
				b := strings.ToUpper(text[11-n:])
				x.write(t, k, at, b)
				x.is(t, k, text[:at]+b+text[at+n:], 3)
				x.is(t, 3-k, text, 3)
				holders := []int{2, 2, 2}
				for i := range 3 {
					if n > 0 && at < (i+1)*4 && at+n > i*4 {
						holders[i] = 1
						holders = append(holders, 1)
					}
				}
				x.held(t, holders...)
				x.write(t, 3-k, at, "???????????"[:n])
				x.is(t, k, text[:at]+b+text[at+n:], 3)
				x.is(t, 3-k, text[:at]+"???????????"[:n]+text[at+n:], 3)
				x.held(t, holders...)
			}
		}
	}
}

func TestWriteOfPieces(t *testing.T) { // P83, P85: pieces of one block, in several buffers, and twice in one
	x := start(t, 16)
	x.make(t, "abcd", 1)
	x.split(t, 1, 2, 2)
	x.clone(t, 2, 0, 2, 3)
	x.clone(t, 1, 1, 1, 4)
	x.join(t, 3, 4) // "cd" and "b"
	x.held(t, 4)
	x.write(t, 3, 1, "YX")
	x.is(t, 3, "cYX", 2)
	x.is(t, 1, "ab", 1)
	x.is(t, 2, "cd", 1)
	x.held(t, 2, 1, 1)
	x.write(t, 1, 0, "A")
	x.is(t, 1, "Ab", 1)
	x.is(t, 2, "cd", 1)
	x.held(t, 1, 1, 1, 1)
	x.write(t, 2, 1, "D") // it alone has the block by now
	x.is(t, 2, "cD", 1)
	x.is(t, 3, "cYX", 2)
	x.held(t, 1, 1, 1, 1)
}

func TestWriteOfTwice(t *testing.T) { // P83: a block that is twice in one buffer, and in no other: the first part gets another block
	x := start(t, 8)
	x.make(t, "abcd", 1)
	x.clone(t, 1, 0, 4, 2)
	x.join(t, 1, 2)
	x.held(t, 2)
	x.write(t, 1, 3, "XY")
	x.is(t, 1, "abcXYbcd", 2)
	x.held(t, 1, 1)
	if b, err := x.s.Read(1, 0, 4); b != "Ybcd" || err != nil {
		t.Errorf("%q, %v", b, err)
	}
	if b, err := x.s.Read(2, 0, 4); b != "abcX" || err != nil {
		t.Errorf("%q, %v", b, err)
	}
}

func TestWriteWhereOthersHold(t *testing.T) { // P83: whoever holds a block, also past the yard
	x := start(t, 8)
	x.make(t, "abcdef", 1)
	if err := x.s.Hold(2); err != nil {
		t.Fatal(err)
	}
	x.write(t, 1, 0, "ABCDEF")
	x.is(t, 1, "ABCDEF", 2)
	x.held(t, 1, 1, 1)
	if b, err := x.s.Read(2, 0, 2); b != "ef" || err != nil {
		t.Errorf("%q, %v", b, err)
	}
	x.free(t, 1)
	x.held(t, 0, 1)
}

func TestWriteThere(t *testing.T) { // P83: blocks are taken by this worker, at this node
	x := build(t, plan{[]int{4, 4}, 0, 64, 3, 1, 4})
	x.make(t, "abcd", 1)
	x.clone(t, 1, 0, 4, 2)
	if err := x.y.Write(buffer.Who{Worker: 1, Node: 1}, 1, 0, "A"); err != nil {
		t.Fatal(err)
	}
	if got := fmt.Sprint(x.d.Cache().Taken()); got != "[{0 0} {0 64} {1 0}]" {
		t.Error(got)
	}
	x.clone(t, 1, 0, 4, 3)
	o, err := x.d.Take(0, 0, false)
	if err != nil || x.d.Give(2, o) != nil {
		t.Fatal(err)
	}
	if err := x.y.Write(buffer.Who{Worker: 2, Node: 1}, 1, 0, "B"); err != nil {
		t.Fatal(err)
	}
	if got := fmt.Sprint(x.d.Cache().Taken()); got != "[{0 0} {0 64} {0 128} {1 0}]" {
		t.Error(got)
	}
}

func TestWriteErrors(t *testing.T) { // P83: ErrStale, ErrBound, the store's, where a block is needed; nothing is changed
	x := start(t, 5)
	x.make(t, letters(6), 1)
	x.make(t, "", 2)
	x.make(t, letters(6), 3)
	x.clone(t, 3, 0, 6, 4)
	none := buffer.Who{Worker: 3, Node: 1}
	writes := func(want error, w buffer.Who, id, at int, b string) {
		t.Helper()
		x.refused(t, want, func() (int, error) { return 0, x.y.Write(w, id, at, b) })
	}
	for _, w := range []buffer.Who{who, none} {
		for _, n := range append([]int{-2, -1, 7, 8}, wild...) {
			for id := 1; id <= 4; id++ {
				writes(api.ErrBound, w, id, n, "")
				writes(api.ErrBound, w, id, n, "x")
			}
		}
		for at := range 7 {
			for id := 1; id <= 4; id++ {
				writes(api.ErrBound, w, id, at, letters(7-at))
				writes(api.ErrBound, w, id, at, letters(1000))
			}
		}
		writes(api.ErrBound, w, 1, 5, "é") // two bytes
		writes(api.ErrBound, w, 2, 0, "x")
	}
	x.stale(t, -1, 0, 5)
	for _, w := range []buffer.Who{{Worker: -1}, {Worker: 3}, {Node: -1}, {Node: 1}, none} {
		for id := 3; id <= 4; id++ {
			writes(api.ErrBound, w, id, 1, "x")
		}
		for id := 1; id <= 4; id++ { // no part is touched, no block needed
			if err := x.y.Write(w, id, 0, ""); err != nil {
				t.Error(id, err)
			}
		}
		if err := x.y.Write(w, 1, 0, letters(6)); err != nil { // it alone has its blocks
			t.Error(err)
		}
	}
	x.held(t, 1, 1, 2, 2)
}

func TestWriteThatLacks(t *testing.T) { // P83: the store's error: the bytes are as they were; parts ahead may have blocks of their own
	x := start(t, 4)
	x.make(t, letters(12), 1)
	x.clone(t, 1, 0, 12, 2)
	if err := x.y.Write(who, 2, 1, "XXXXXX"); err != api.ErrWait {
		t.Fatal(err)
	}
	x.is(t, 1, letters(12), 3)
	x.is(t, 2, letters(12), 3)
	x.held(t, 1, 2, 2, 1)
	before := x.sight()
	for at := 4; at < 12; at++ {
		if err := x.y.Write(who, 2, at, "X"); err != api.ErrWait || x.sight() != before {
			t.Fatal(at, err, x.sight())
		}
	}
	if err := x.y.Write(who, 1, 0, letters(5)); err != api.ErrWait || x.sight() != before {
		t.Fatal(err, x.sight())
	}
	x.write(t, 2, 0, "ABCD") // its own by now
	x.is(t, 1, letters(12), 3)
	x.is(t, 2, "ABCDefghijkl", 3)
	x.write(t, 1, 0, "1234")
	x.is(t, 1, "1234efghijkl", 3)
	x.is(t, 2, "ABCDefghijkl", 3)
	x.pull(t, 1, 5)
	x.write(t, 1, 0, "") // a part that is left holds its block as ever
	x.held(t, 0, 2, 2, 1)
	x.write(t, 1, 0, "F") // by the object of block 1
	x.is(t, 1, "Fghijkl", 2)
	x.is(t, 2, "ABCDefghijkl", 3)
	x.held(t, 0, 1, 2, 1, 1)
	x.wait(t, 8)
	if err := x.y.Write(who, 1, 5, "x"); err != api.ErrMany {
		t.Error(err)
	}
}

func TestPull(t *testing.T) { // P83: so many bytes go; parts that have none left are let go
	for n := 0; n <= 11; n++ {
		for shared := range 2 {
			x := start(t, 8)
			text := letters(11)
			x.make(t, text, 1)
			holders := []int{1, 1, 1}
			if shared == 1 {
				x.clone(t, 1, 0, 11, 2)
				holders = []int{2, 2, 2}
			}
			x.pull(t, 1, n)
			gone := n/4 + n/11
			for k := range gone {
				holders[k]--
			}
			x.is(t, 1, text[n:], 3-gone)
			x.held(t, holders...)
			if shared == 1 {
				x.is(t, 2, text, 3)
			}
		}
	}
}

func TestPullOnAndOn(t *testing.T) { // P83: a part that is cut is cut again
	x := start(t, 8)
	x.make(t, letters(11), 1)
	for n := range 12 {
		x.is(t, 1, letters(11)[n:], 3-n/4-n/11)
		if n < 11 {
			x.pull(t, 1, 1)
			x.pull(t, 1, 0)
		}
	}
	x.held(t)
	x.there(t, 1)
	x.make(t, "X", 2)
	x.join(t, 1, 2)
	x.is(t, 1, "X", 1)
}

func TestPullByAWorker(t *testing.T) { // P83: by this worker, from the first part on
	x := build(t, plan{[]int{8}, 0, 64, 2, 2, 4})
	x.make(t, letters(16), 1) // {0 128}, {0 192}, {0 256}, {0 320}
	x.make(t, letters(12), 2) // {0 384}, {0 448}, and {0 64}, of the reserve
	if err := x.y.Pull(buffer.Who{Worker: 1, Node: -1}, 1, 13); err != nil {
		t.Fatal(err)
	}
	x.is(t, 1, letters(16)[13:], 1)
	for _, at := range []int{256, 192, 128, 0} { // the first one went to where the reserve lacked one
		if o, err := x.p.Take(1, 0); o != (api.Object{At: at}) || err != nil {
			t.Error(o, err, at)
		}
	}
}

func TestPullErrors(t *testing.T) { // P83: ErrStale, then ErrBound: n, or the worker, also where nothing would be given back
	for workers := 1; workers <= 4; workers++ {
		x := build(t, plan{[]int{4}, 0, 64, workers, 1, 4})
		x.make(t, letters(6), 1)
		x.make(t, "", 2)
		x.clone(t, 1, 0, 6, 3)
		pulls := func(w, id, n int) {
			t.Helper()
			x.refused(t, api.ErrBound, func() (int, error) { return 0, x.y.Pull(buffer.Who{Worker: w}, id, n) })
		}
		for _, n := range append([]int{-1, 7, 8}, wild...) {
			for id := 1; id <= 3; id++ {
				pulls(0, id, n)
				pulls(-1, id, n)
				pulls(workers, id, n)
			}
		}
		pulls(0, 2, 1)
		for _, w := range append([]int{-1, workers, workers + 1, 4, 5}, wild...) {
			for n := range 7 {
				pulls(w, 1, n)
				pulls(w, 2, n)
				pulls(w, 3, n)
			}
		}
		x.stale(t, -1, 0, 4)
		if err := x.y.Pull(buffer.Who{Worker: workers - 1}, 2, 0); err != nil {
			t.Error(err)
		}
	}
}

func TestIDs(t *testing.T) { // P80, P84: rising; no number twice, whoever is gone; at most 40
	x := start(t, 4)
	x.make(t, "", 1)
	wants := []int{1}
	for id := 2; id <= 200; id++ {
		if len(wants) == 40 {
			x.refused(t, api.ErrFull, func() (int, error) { return x.y.Make(who, "") })
			for _, k := range []int{39, 17, 3, 2, 0} {
				x.free(t, wants[k])
				x.stale(t, wants[k])
				wants = slices.Delete(wants, k, k+1)
			}
			x.join(t, wants[7], wants[2])
			x.stale(t, wants[2])
			wants = slices.Delete(wants, 2, 3)
		}
		switch id % 3 {
		case 0:
			x.make(t, "", id)
		case 1:
			x.split(t, wants[0], 0, id)
		default:
			x.clone(t, wants[0], 0, 0, id)
		}
		wants = append(wants, id)
		x.there(t, wants...)
	}
	x.free(t, wants...)
	x.there(t)
	x.make(t, "a", 201)
	x.there(t, 201)
}

func TestIDsAreNew(t *testing.T) { // P4: who writes into the answer changes nothing
	x := start(t, 4)
	for id := 1; id <= 3; id++ {
		x.make(t, "a", id)
	}
	before := x.sight()
	clear(x.y.IDs())
	l := x.y.IDs()
	_ = append(l[:0:cap(l)], 7, 7, 7, 7)[:0]
	if x.sight() != before {
		t.Error(x.sight())
	}
}

func TestYardsOfOneStore(t *testing.T) { // P80, P85: numbers of their own, of the same blocks' numbers; neither sees the other one
	x := start(t, 8)
	y, err := buffer.New(x.s)
	if err != nil {
		t.Fatal(err)
	}
	z := rig{x.d, x.p, x.s, y}
	x.make(t, "abcdef", 1)
	z.make(t, "ABC", 1)
	x.make(t, "ghi", 2)
	z.stale(t, 2)
	x.held(t, 1, 1, 1, 1)
	x.write(t, 1, 0, "xyz")
	z.is(t, 1, "ABC", 1)
	z.write(t, 1, 0, "XYZ")
	x.is(t, 1, "xyzdef", 2)
	x.is(t, 2, "ghi", 1)
	x.free(t, 1)
	z.is(t, 1, "XYZ", 1)
	z.free(t, 1)
	x.held(t, 0, 0, 0, 1)
}

func TestDroppedPast(t *testing.T) { // P1, P85: somebody drops a block past the yard: buffers do not see what is written into others, no call panics
	x := start(t, 4)
	x.make(t, "abcdef", 1)
	x.clone(t, 1, 0, 6, 2)
	x.clone(t, 1, 0, 4, 3)
	x.join(t, 2, 3) // block 1 three times, block 2 twice
	for range 2 {
		if err := x.s.Drop(0, 1); err != nil {
			t.Fatal(err)
		}
	}
	x.held(t, 1, 2)
	x.write(t, 2, 1, "B")
	x.is(t, 2, "aBcdefabcd", 3)
	x.is(t, 1, "abcdef", 2)
	x.held(t, 1, 2, 1)
	x.write(t, 2, 6, "A")
	x.is(t, 2, "aBcdefAbcd", 3)
	x.is(t, 1, "abcdef", 2)
	x.held(t, 1, 2, 1, 1)
	x.write(t, 1, 0, "12")
	x.is(t, 1, "12cdef", 2)
	x.held(t, 1, 2, 1, 1)
	if err := x.s.Drop(0, 2); err != nil {
		t.Fatal(err)
	}
	before := x.sight()
	if err := x.y.Write(who, 1, 4, "E"); err != api.ErrWait || x.sight() != before {
		t.Fatal(err, x.sight())
	}
	if err := x.s.Drop(0, 2); err != nil {
		t.Fatal(err)
	}
	before = x.sight()
	b, e1 := x.y.Read(1, 3, 2)
	id, e2 := x.y.Clone(1, 0, 5)
	cut, e3 := x.y.Split(1, 5)
	if b != "" || id != 0 || cut != 0 || e1 != api.ErrNone || e2 != api.ErrNone || e3 != api.ErrNone {
		t.Error(b, id, cut, e1, e2, e3)
	}
	if err := x.y.Write(who, 1, 3, "DE"); err != api.ErrNone || x.sight() != before {
		t.Error(err, x.sight())
	}
	x.pull(t, 2, 5)
	x.join(t, 1, 2)
	x.free(t, 1)
	x.held(t)
	x.there(t)
}

func TestYardsOfStoresThatNobodyMade(t *testing.T) { // P1: such a store, or one of such a pool, might be handed over
	s, err := store.New(&pool.Pool{}, 4)
	if err != nil {
		t.Fatal(err)
	}
	for _, s := range []*store.Store{s, {}} {
		y, err := buffer.New(s)
		if err != nil {
			t.Fatal(err)
		}
		want := api.ErrNone
		if s.Size() == 0 { // no parts of no bytes are enough
			want = api.ErrMany
		}
		for range 3 {
			if id, err := y.Make(who, "a"); id != 0 || err != want {
				t.Error(id, err)
			}
		}
		id, e1 := y.Make(who, "")
		b, e2 := y.Read(1, 0, 0)
		k, e3 := y.Clone(1, 0, 0)
		l, e4 := y.Split(1, 0)
		e5 := y.Join(1, 2)
		e6 := y.Write(who, 1, 0, "")
		if id != 1 || b != "" || k != 2 || l != 3 || e1 != nil || e2 != nil || e3 != nil || e4 != nil || e5 != nil || e6 != nil {
			t.Error(id, b, k, l, e1, e2, e3, e4, e5, e6)
		}
		if e1, e2 := y.Free(who, 1), y.Pull(who, 3, 0); e1 != api.ErrBound || e2 != api.ErrBound { // there is no worker
			t.Error(e1, e2)
		}
		if l := y.IDs(); !slices.Equal(l, []int{1, 3}) {
			t.Error(l)
		}
	}
}

func TestTheExample(t *testing.T) { // the document's: a buffer of 40 bytes in a store of 16, and its clone from 10 on
	x := wide(t, 16)
	x.make(t, letters(40), 1)
	x.clone(t, 1, 10, 30, 2)
	x.is(t, 1, letters(40), 3)
	x.is(t, 2, letters(40)[10:], 3)
	x.held(t, 2, 2, 2)
}
