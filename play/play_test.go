package play_test

import (
	"fmt"
	"math"
	"slices"
	"strings"
	"testing"

	"slabyard/api"
	"slabyard/buffer"
	"slabyard/magazine"
	"slabyard/play"
	"slabyard/reclaim"
	"slabyard/zone"
)

// kinds of steps, as the document numbers them.
const (
	makes = iota
	clones
	clonesOn
	splits
	joins
	writes
	pulls
	frees
	takes
	gives
	reclaims
	drains
	empties
	clonesToo
	writesToo
	freesToo
)

// num is the number of a script for a step of this kind.
func num(kind, q int) int { return 16*q + kind }

// nodes are as many as pages, each as far from each other one; pages are asked back below low, up to high.
func nodes(least, low, high int, pages ...int) zone.Config {
	c := zone.Config{Pages: pages, Marks: api.Marks{Min: least, Low: low, High: high}}
	for i := range pages {
		far := slices.Repeat([]int{1}, len(pages))
		far[i] = 0
		c.Near = append(c.Near, far)
	}
	return c
}

// rig is a play with a test that asks it.
type rig struct {
	*testing.T
	p *play.Play
}

func start(t *testing.T, c zone.Config) rig {
	t.Helper()
	p, err := play.New(c)
	if err != nil || p == nil {
		t.Fatal(c, err)
	}
	return rig{t, p}
}

// bare is a play of so many pages a node, without marks.
func bare(t *testing.T, pages ...int) rig {
	t.Helper()
	return start(t, nodes(0, 0, 0, pages...))
}

// step holds what a single one answers.
func (r rig) step(kind, q, want int) {
	r.Helper()
	if l := r.p.Run([]int{num(kind, q)}); !slices.Equal(l, []int{want}) {
		r.Fatalf("kind %d, q %d: %v, want %d", kind, q, l, want)
	}
	r.sound()
}

// steps of one kind, each without an error.
func (r rig) steps(kind int, qs ...int) {
	r.Helper()
	for _, q := range qs {
		r.step(kind, q, 0)
	}
}

func (r rig) sound() {
	r.Helper()
	if err := r.p.House().Audit(); err != nil {
		r.Fatal(err)
	}
}

func (r rig) depot(i int) *magazine.Depot {
	r.Helper()
	d, err := r.p.House().Depot(i)
	if err != nil || d == nil {
		r.Fatal(i, err)
	}
	return d
}

// buffers holds which ones there are, and their bytes: number and text in turn.
func (r rig) buffers(wants ...any) {
	r.Helper()
	if got, want := texts(r.p.Yard()), strings.TrimSuffix(fmt.Sprintln(wants...), "\n"); got != want {
		r.Fatalf("%s, want %s", got, want)
	}
}

func texts(y *buffer.Yard) string {
	var l []any
	for _, id := range y.IDs() {
		n, err := y.Len(id)
		text, e := y.Read(id, 0, n)
		if err != nil || e != nil {
			return fmt.Sprint(id, err, e)
		}
		l = append(l, id, text)
	}
	return strings.TrimSuffix(fmt.Sprintln(l...), "\n")
}

// at is the list of objects that begin there: node and byte in turn.
func at(numbers ...int) []api.Object {
	var l []api.Object
	for i := 0; i+1 < len(numbers); i += 2 {
		l = append(l, api.Object{Node: numbers[i], At: numbers[i+1]})
	}
	return l
}

func (r rig) loose(wants ...int) {
	r.Helper()
	if l := r.p.Loose(); !slices.Equal(l, at(wants...)) {
		r.Fatalf("%v, want %v", l, wants)
	}
}

// taken holds what a depot's cache has given out, magazines and all.
func (r rig) taken(i int, wants ...int) {
	r.Helper()
	if l := r.depot(i).Cache().Taken(); !slices.Equal(l, at(wants...)) {
		r.Fatalf("depot %d: %v, want %v", i, l, wants)
	}
}

func (r rig) held(i, workers, pile int) {
	r.Helper()
	if w, p := r.depot(i).Held(); w != workers || p != pile {
		r.Fatalf("depot %d: %d and %d, want %d and %d", i, w, p, workers, pile)
	}
}

// free holds how many pages of each node are.
func (r rig) free(wants ...int) {
	r.Helper()
	for node, want := range wants {
		if n, err := r.p.House().Zone().Free(node); n != want || err != nil {
			r.Fatalf("node %d: %d, %v, want %d", node, n, err, want)
		}
	}
}

// lies holds how many objects are in a worker's magazines, and takes them off there.
func (r rig) lies(i, worker, want int) {
	r.Helper()
	if n, err := r.depot(i).Drain(worker); n != want || err != nil {
		r.Fatalf("depot %d, worker %d: %d, %v, want %d", i, worker, n, err, want)
	}
}

// sight is all that can be told of a play.
func (r rig) sight() string {
	r.Helper()
	return sight(r.p.Yard(), r.p.House(), r.p.Loose())
}

func sight(y *buffer.Yard, h *reclaim.House, loose []api.Object) string {
	var s strings.Builder
	s.WriteString(texts(y))
	for _, id := range y.IDs() {
		n, err := y.Parts(id)
		fmt.Fprint(&s, " ", n, err)
	}
	fmt.Fprint(&s, "; loose ", loose)
	for node := range api.MaxNodes {
		if b, err := h.Zone().Node(node); err == nil {
			fmt.Fprint(&s, "; node ", node, b.Free(), b.Taken())
		}
	}
	for i := range api.MaxCaches {
		if d, err := h.Depot(i); err == nil {
			workers, pile := d.Held()
			c := d.Cache()
			with := slices.DeleteFunc(c.Taken(), func(o api.Object) bool { return !c.Out(o) })
			fmt.Fprint(&s, "; depot ", i, c.Size(), workers, pile, c.Slabs(), c.Taken(), with)
		}
	}
	return s.String()
}

func TestNew(t *testing.T) { // P100: depots of 16 and 40 bytes, two workers each; two objects of the pool, at node 0; nothing else
	r := bare(t, 4, 2)
	for i, size := range []int{16, 40} {
		d := r.depot(i)
		if d.Cache().Size() != size || d.Workers() != 2 {
			t.Error(i, d.Cache().Size(), d.Workers())
		}
		if _, err := d.Drain(1); err != nil {
			t.Error(i, err)
		}
		if _, err := d.Drain(2); err != api.ErrBound {
			t.Error(i, err)
		}
		r.held(i, 0, 0)
	}
	if _, err := r.p.House().Depot(2); err != api.ErrBound {
		t.Error(err)
	}
	r.taken(0, 0, 0, 0, 16)
	r.taken(1)
	r.free(3, 2)
	r.buffers()
	r.loose()
	r.sound()
}

func TestNewOfEachConfig(t *testing.T) { // P100: the reserve is urgent, and of node 0, wherever the nodes are
	for _, c := range []zone.Config{
		nodes(0, 0, 0, 1),
		nodes(256, 300, 400, 1),
		nodes(1, 2, 3, 1, 256, 7, 1),
		{Pages: []int{2, 9}, Near: [][]int{{999, 1000}, {1, 0}}, Marks: api.Marks{Min: 2, Low: 2, High: 2}},
	} {
		r := start(t, c)
		r.taken(0, 0, 0, 0, 16)
		r.free(append([]int{c.Pages[0] - 1}, c.Pages[1:]...)...)
		r.sound()
	}
}

func TestReserve(t *testing.T) { // P100: two objects, which come where no other one is left, and to which the first ones go back
	r := bare(t, 1)
	for _, want := range []int{3, 4, 4, 4} { // of the page, then of the reserve
		r.step(makes, 1, 0)
		taken, _ := r.depot(0).Cache().Count()
		if taken != want {
			t.Fatal(taken, want)
		}
	}
	r.step(makes, 1, 8)
	r.steps(frees, 0, 0)
	r.held(0, 0, 0)
	r.steps(frees, 0, 0)
	r.held(0, 2, 0)
}

func TestBlocks(t *testing.T) { // P100: the store's blocks have 16 bytes
	r := bare(t, 16)
	y := r.p.Yard()
	for n, want := range map[int]int{0: 0, 1: 1, 16: 1, 17: 2, 32: 2, 33: 3, 192: 12} {
		id, err := y.Make(buffer.Who{}, strings.Repeat("x", n))
		if parts, e := y.Parts(id); parts != want || err != nil || e != nil {
			t.Error(n, parts, err, e)
		}
	}
	if _, err := y.Make(buffer.Who{}, strings.Repeat("x", 193)); err != api.ErrMany {
		t.Error(err)
	}
	if _, err := y.Make(buffer.Who{Worker: 2}, "x"); err != api.ErrBound {
		t.Error(err)
	}
}

func TestNewErrors(t *testing.T) { // P100: the zone's, and no play
	for _, x := range []struct {
		c    zone.Config
		want error
	}{
		{zone.Config{}, api.ErrBound},
		{nodes(0, 0, 0, 1, 1, 1, 1, 1), api.ErrBound},
		{nodes(0, 0, 0, 0), api.ErrBound},
		{nodes(0, 0, 0, 4, 257), api.ErrBound},
		{nodes(0, 0, 0, math.MinInt), api.ErrBound},
		{nodes(0, 0, 0, math.MaxInt), api.ErrBound},
		{nodes(-1, 0, 0, 4), api.ErrBound},
		{nodes(1, 0, 2, 4), api.ErrBound},
		{nodes(1, 3, 2, 4), api.ErrBound},
		{zone.Config{Pages: []int{4}, Near: [][]int{{1001}}}, api.ErrBound},
		{zone.Config{Pages: []int{4, 4}, Near: [][]int{{0, -1}, {1, 0}}}, api.ErrBound},
		{zone.Config{Pages: []int{4}}, api.ErrShape},
		{zone.Config{Pages: []int{4}, Near: [][]int{nil}}, api.ErrShape},
		{zone.Config{Pages: []int{4, 4}, Near: [][]int{{0, 1}, {0, 0}}}, api.ErrShape},
	} {
		if p, err := play.New(x.c); p != nil || err != x.want {
			t.Error(x.c, p, err)
		}
	}
}

func TestOwn(t *testing.T) { // P100, P4: the yard and the house are the play's own, the same each time; nobody else's
	r, other := bare(t, 4), bare(t, 4)
	if r.p.Yard() != r.p.Yard() || r.p.House() != r.p.House() || r.p.Yard() == other.p.Yard() || r.p.House() == other.p.House() {
		t.Fatal("not its own")
	}
	if id, err := r.p.Yard().Make(buffer.Who{}, "of somebody"); id != 1 || err != nil {
		t.Fatal(id, err)
	}
	r.steps(clonesOn, 3)
	r.buffers(1, "of somebody", 2, "somebody")
	if o, err := r.p.House().Take(1, 0, 0); o != (api.Object{At: 64}) || err != nil {
		t.Fatal(o, err)
	}
	r.steps(takes, 0)
	r.loose(0, 128)
	other.buffers()
	other.free(3)
}

func TestConfigIsNotKept(t *testing.T) { // P4: who changes it later changes nothing
	c := nodes(0, 1, 2, 4, 4)
	r, same := start(t, c), start(t, nodes(0, 1, 2, 4, 4))
	c.Pages[0], c.Pages[1] = 1, 1
	c.Near[0][0], c.Near[0][1], c.Near[1] = 7, 2, nil
	script := count(700)
	if a, b := r.p.Run(script), same.p.Run(script); !slices.Equal(a, b) || r.sight() != same.sight() {
		t.Error(a, b, r.sight(), same.sight())
	}
}

// count is a script of so many numbers, all of them small, in an order in which much happens.
func count(n int) []int {
	x := uint32(n)
	var l []int
	for range n {
		x = x*1664525 + 1013904223
		l = append(l, int(x>>16)%(16*50))
	}
	return l
}

func TestLooseIsNew(t *testing.T) { // P4: who writes into the answer changes nothing, nor does what comes later change it
	r := bare(t, 8)
	r.steps(takes, 0, 0, 0)
	l := r.p.Loose()
	r.steps(gives, 0)
	if !slices.Equal(l, at(0, 64, 0, 128, 0, 192)) {
		t.Error(l)
	}
	l = r.p.Loose()
	l[0], l[1] = api.Object{Node: 3}, api.Object{At: 7}
	_ = append(l[:1], api.Object{At: 9})
	r.loose(0, 128, 0, 192)
	r.steps(gives, 1)
	r.loose(0, 128)
}

func TestScriptIsOnlyRead(t *testing.T) { // P3, P4: nor is what lies behind its end; answers are new each time
	r := bare(t, 4)
	script := []int{num(makes, 1), num(clones, 0), num(frees, 0), -1}
	before := slices.Clone(script)
	a := r.p.Run(script[:2])
	script[0] = num(frees, 0)
	b := r.p.Run(script[:2])
	script[0] = before[0]
	if !slices.Equal(script, before) || !slices.Equal(a, []int{0, 0}) || !slices.Equal(b, []int{0, 0}) {
		t.Error(script, a, b)
	}
	b[0], b[1] = 7, 7
	if !slices.Equal(a, []int{0, 0}) {
		t.Error(a)
	}
	r.buffers(2, "b1", 3, "b1")
}

func TestRunOfNothing(t *testing.T) { // P1, P101: no numbers, no answers
	r := bare(t, 4)
	first := r.sight()
	for _, script := range [][]int{nil, {}, make([]int, 0, 5)} {
		if l := r.p.Run(script); len(l) != 0 {
			t.Error(l)
		}
	}
	if r.sight() != first {
		t.Error(r.sight())
	}
}

func TestMost(t *testing.T) { // P101: 2000 numbers are run, and answered; those behind them are not
	for _, x := range []struct{ n, want int }{{1, 1}, {1999, 1999}, {2000, 2000}, {2001, 2000}, {2002, 2000}, {5000, 2000}} {
		r := bare(t, 4)
		script := slices.Repeat([]int{-1}, x.n)
		script[x.want-1] = num(makes, 1)
		for i := x.want; i < x.n; i++ {
			script[i] = num(frees, 0)
		}
		l := r.p.Run(script)
		if len(l) != x.want || l[x.want-1] != 0 || slices.ContainsFunc(l[:x.want-1], func(a int) bool { return a != -1 }) {
			t.Error(x.n, len(l))
		}
		r.buffers(1, "b1")
	}
}

func TestBelowNothing(t *testing.T) { // P101: -1, and nothing is done
	r := bare(t, 6)
	r.steps(makes, 1, 2)
	r.steps(takes, 0, 0)
	first := r.sight()
	for _, v := range []int{-1, -2, -7, -8, -9, -15, -16, -17, -24, -32, -1 << 32, math.MinInt + 8, math.MinInt + 7, math.MinInt + 1, math.MinInt} {
		if l := r.p.Run([]int{v}); !slices.Equal(l, []int{-1}) || r.sight() != first {
			t.Fatal(v, l, r.sight())
		}
	}
	if l := r.p.Run([]int{-1, num(makes, 1), -5, num(frees, 2), math.MinInt}); !slices.Equal(l, []int{-1, 0, -1, 0, -1}) {
		t.Error(l)
	}
}

func TestFarNumbers(t *testing.T) { // P1, P101: as far as an int goes
	// q is 576460752303423487: worker 1; 1 modulo 3; 2 modulo 5; 7 modulo 20.
	r := bare(t, 8, 8, 8)
	last := math.MaxInt - 15
	for _, x := range []struct{ v, want int }{
		{last + frees, 4}, {last + freesToo, 4}, {last + gives, 4}, {last + makes, 0}, {last - 16 + makes, 0}, {last + clones, 0},
		{last + writesToo, 0}, {last + pulls, 0}, {last + takes, 0}, {last + drains, 0}, {last + empties, 0}, {last + reclaims, 0},
	} {
		if l := r.p.Run([]int{x.v}); !slices.Equal(l, []int{x.want}) {
			t.Fatal(x.v, l)
		}
		r.sound()
	}
	r.buffers(1, "b576460752303423487b576460752303423487", 2, "www303423486", 3, "b576460752303423486")
	r.taken(1, 1, 64)
	if l := r.p.Run([]int{last + freesToo, last + gives, last + splits, last + joins}); !slices.Equal(l, []int{0, 0, 0, 0}) {
		t.Error(l)
	}
	r.buffers(1, "b576460752303423487b576460752303423487b576460", 4, "752303423486")
	r.loose()
}

func TestMake(t *testing.T) { // P101: the letter and q, so many times: of 5, 10 .. a buffer of nothing
	r := bare(t, 64)
	for i, want := range []string{
		"", "b1", "b2b2", "b3b3b3", "b4b4b4b4",
		"", "b6", "b7b7", "b8b8b8", "b9b9b9b9",
		"", "b11", "b12b12", "b13b13b13", "b14b14b14b14",
	} {
		r.step(makes, i, 0)
		r.step(frees, 0, 0)
		r.step(makes, i, 0)
		r.buffers(2*i+2, want)
		r.step(frees, 0, 0)
	}
	for q, want := range map[int]string{
		99: "b99b99b99b99", 100: "", 101: "b101", 1234567: "b1234567b1234567",
		576460752303423484: strings.Repeat("b576460752303423484", 4),
	} {
		r.step(makes, q, 0)
		if text := texts(r.p.Yard()); !strings.HasSuffix(text, " "+want) {
			t.Error(q, text)
		}
		r.step(frees, 0, 0)
	}
}

// three buffers, 1 to 3, of nine bytes, three, and none.
func three(t *testing.T) rig {
	t.Helper()
	r := bare(t, 8)
	r.steps(makes, 13, 66, 5)
	r.buffers(1, "b13b13b13", 2, "b66", 3, "")
	return r
}

func TestInBuffer(t *testing.T) { // P101: which buffer, and where: each kind
	rest := []any{2, "b66", 3, ""}
	with := func(wants ...any) []any { return append(wants, rest...) }
	all := func(wants ...any) []any { return append(with(1, "b13b13b13"), wants...) }
	for _, x := range []struct {
		kinds []int
		q     int
		wants []any
	}{
		{[]int{clones, clonesToo}, 0, all(4, "b13b13b13")},
		{[]int{clones, clonesToo}, 1, all(4, "b66")},
		{[]int{clones, clonesToo}, 2, all(4, "")},
		{[]int{clones, clonesToo}, 3, all(4, "b13b13b13")},
		{[]int{clones, clonesToo}, 301, all(4, "b66")},
		{[]int{clonesOn}, 0, all(4, "b13b13b13")},
		{[]int{clonesOn}, 1, all(4, "66")},
		{[]int{clonesOn}, 2, all(4, "")},
		{[]int{clonesOn}, 3, all(4, "b13b13")},
		{[]int{clonesOn}, 4, all(4, "b66")},
		{[]int{clonesOn}, 6, all(4, "b13")},
		{[]int{clonesOn}, 7, all(4, "")},
		{[]int{clonesOn}, 9, all(4, "")},
		{[]int{clonesOn}, 10, all(4, "6")},
		{[]int{clonesOn}, 12, all(4, "3b13b13")},
		{[]int{clonesOn}, 30, all(4, "b13b13b13")},
		{[]int{splits}, 0, with(1, "")},
		{[]int{splits}, 3, with(1, "b13")},
		{[]int{splits}, 9, with(1, "b13b13b13")},
		{[]int{splits}, 12, with(1, "b1")},
		{[]int{splits}, 1, []any{1, "b13b13b13", 2, "b", 3, ""}},
		{[]int{splits}, 4, []any{1, "b13b13b13", 2, "", 3, ""}},
		{[]int{splits}, 10, []any{1, "b13b13b13", 2, "b6", 3, ""}},
		{[]int{splits}, 7, all()},
		{[]int{splits}, 2, all()},
		{[]int{joins}, 1, []any{1, "b13b13b13b66", 3, ""}},
		{[]int{joins}, 2, []any{1, "b13b13b13", 2, "b66"}},
		{[]int{joins}, 4, []any{1, "b13b13b13b66", 3, ""}},
		{[]int{writes, writesToo}, 0, with(1, "wwwb13b13")},
		{[]int{writes, writesToo}, 3, with(1, "b13wwwb13")},
		{[]int{writes, writesToo}, 6, with(1, "b13b13www")},
		{[]int{writes, writesToo}, 9, with(1, "b13b13b13")},
		{[]int{writes, writesToo}, 12, with(1, "b1www3b13")},
		{[]int{writes, writesToo}, 18, with(1, "b13b13b1w")},
		{[]int{writes, writesToo}, 27, with(1, "b13b13bww")},
		{[]int{writes, writesToo}, 1, []any{1, "b13b13b13", 2, "bww", 3, ""}},
		{[]int{writes, writesToo}, 4, []any{1, "b13b13b13", 2, "www", 3, ""}},
		{[]int{writes, writesToo}, 10, []any{1, "b13b13b13", 2, "b6w", 3, ""}},
		{[]int{writes, writesToo}, 7, all()},
		{[]int{writes, writesToo}, 2, all()},
		{[]int{pulls}, 0, all()},
		{[]int{pulls}, 3, with(1, "b13b13")},
		{[]int{pulls}, 9, with(1, "")},
		{[]int{pulls}, 12, with(1, "3b13b13")},
		{[]int{pulls}, 1, []any{1, "b13b13b13", 2, "66", 3, ""}},
		{[]int{pulls}, 7, []any{1, "b13b13b13", 2, "", 3, ""}},
		{[]int{pulls}, 2, all()},
		{[]int{frees, freesToo}, 0, with()},
		{[]int{frees, freesToo}, 1, []any{1, "b13b13b13", 3, ""}},
		{[]int{frees, freesToo}, 2, []any{1, "b13b13b13", 2, "b66"}},
		{[]int{frees, freesToo}, 3, with()},
		{[]int{frees, freesToo}, 3002, []any{1, "b13b13b13", 2, "b66"}},
	} {
		for _, kind := range x.kinds {
			r := three(t)
			r.step(kind, x.q, 0)
			if kind == splits { // what is behind is the new one: both together are as they were
				r.buffers(append(x.wants, 4, behind(x.q))...)
				continue
			}
			r.buffers(x.wants...)
		}
	}
}

// behind is what a split of one of the three leaves.
func behind(q int) string {
	text := []string{"b13b13b13", "b66", ""}[q%3]
	return text[q%(len(text)+1):]
}

func TestJoinOfItself(t *testing.T) { // P101: ErrHeld: the first one of IDs, whatever its number is
	r := three(t)
	for _, q := range []int{0, 3, 6, 300} {
		r.step(joins, q, 6)
	}
	r.buffers(1, "b13b13b13", 2, "b66", 3, "")
	r.step(frees, 0, 0)
	r.step(joins, 0, 6)
	r.step(joins, 2, 6)
	r.step(joins, 1, 0)
	r.buffers(2, "b66")
	r.step(joins, 1, 6)
}

func TestWithoutBuffers(t *testing.T) { // P101: ErrNone of those that need one; nothing is changed
	r := bare(t, 4)
	for _, q := range []int{0, 1, 2, 5, 77} {
		for _, kind := range []int{clones, clonesOn, splits, joins, writes, pulls, frees, clonesToo, writesToo, freesToo} {
			first := r.sight()
			r.step(kind, q, 4)
			if r.sight() != first {
				t.Error(kind, q, r.sight())
			}
		}
		for _, kind := range []int{takes, gives, reclaims, drains, empties} {
			r.step(kind, q, 0)
		}
	}
	r.step(makes, 0, 0)
	r.buffers(1, "")
}

func TestMakeThere(t *testing.T) { // P101: node q modulo how many there are, worker q modulo 2
	r := bare(t, 8, 8, 8)
	r.step(makes, 1, 0)
	r.taken(0, 0, 0, 0, 16, 1, 0)
	r.step(makes, 2, 0)
	r.taken(0, 0, 0, 0, 16, 1, 0, 2, 0)
	r.step(makes, 3, 0)
	r.taken(0, 0, 0, 0, 16, 0, 32, 1, 0, 2, 0)
	r.step(makes, 7, 0)
	r.taken(0, 0, 0, 0, 16, 0, 32, 1, 0, 1, 16, 2, 0)
	r.step(frees, 1, 0) // 2, by worker 1: {2 0} lies in its magazine
	r.held(0, 1, 0)
	r.step(makes, 6, 0) // by worker 0, of the cache
	r.held(0, 1, 0)
	r.step(makes, 9, 0)
	r.held(0, 0, 0)
	r.taken(0, 0, 0, 0, 16, 0, 32, 0, 48, 1, 0, 1, 16, 2, 0)
}

func TestWriteThere(t *testing.T) { // P101: a block of its own is taken by this worker, at this node
	for _, kind := range []int{writes, writesToo} {
		r := bare(t, 8, 8, 8)
		r.steps(makes, 11) // b11, at node 2
		r.steps(clones, 0)
		r.taken(0, 0, 0, 0, 16, 2, 0)
		r.step(kind, 4, 0)
		r.taken(0, 0, 0, 0, 16, 1, 0, 2, 0)
		r.buffers(1, "www", 2, "b11")

		r.steps(frees, 1) // 2, by worker 1: {2 0} lies in its magazine
		r.steps(clones, 0)
		r.step(kind, 12, 0) // by worker 0
		r.held(0, 1, 0)
		r.steps(frees, 1) // 3, by worker 1: {1 0} lies there, too
		r.held(0, 2, 0)
		r.steps(clones, 0)
		r.step(kind, 5, 0) // 4, at 1
		r.held(0, 1, 0)
		r.buffers(1, "www", 4, "www")
	}
}

func TestLetGoBy(t *testing.T) { // P101: who pulls or frees is worker q modulo 2
	for _, kind := range []int{frees, freesToo, pulls} {
		for worker := range 2 {
			r := bare(t, 8)
			r.steps(makes, 24)                     // b24b24b24b24: a block
			r.step(kind, []int{12, 25}[worker], 0) // all twelve bytes go
			r.lies(0, 1-worker, 0)
			r.lies(0, worker, 1)
		}
	}
}

func TestTake(t *testing.T) { // P101: of depot 1, by this worker, at this node: loose in the order in which it was taken
	r := bare(t, 4, 4, 4)
	r.step(takes, 2, 0)
	r.loose(2, 0)
	r.step(takes, 0, 0)
	r.loose(2, 0, 0, 64)
	r.step(takes, 7, 0)
	r.loose(2, 0, 0, 64, 1, 0)
	r.step(takes, 6, 0)
	r.loose(2, 0, 0, 64, 1, 0, 0, 128)
	r.step(gives, 1, 0) // {0 64} lies in worker 1's magazine
	r.loose(2, 0, 1, 0, 0, 128)
	r.held(1, 1, 0)
	r.step(takes, 4, 0) // by worker 0
	r.loose(2, 0, 1, 0, 0, 128, 1, 64)
	r.step(takes, 5, 0) // what is at hand, whatever the node is
	r.loose(2, 0, 1, 0, 0, 128, 1, 64, 0, 64)
	r.held(1, 0, 0)
	r.taken(0, 0, 0, 0, 16)
}

func TestTakeInVain(t *testing.T) { // P101: ErrFull, and nothing more is loose
	r := bare(t, 2, 1)
	r.steps(takes, 1, 1)
	r.loose(1, 0, 0, 64)
	r.step(takes, 0, 5)
	r.step(takes, 1, 5)
	r.loose(1, 0, 0, 64)
}

func TestTakeIsTheHouses(t *testing.T) { // P101: where pages lack they are asked back
	r := start(t, nodes(1, 1, 2, 4))
	r.steps(takes, 0, 0)
	r.free(1)
	r.steps(gives, 1) // {0 128}, by worker 1
	r.held(1, 1, 0)
	r.steps(takes, 0) // by worker 0: behind it less than Min would be free, so worker 1's comes back
	r.held(1, 0, 0)
	r.free(1)
	r.loose(0, 64, 0, 128)
}

func TestGive(t *testing.T) { // P101: the one that q tells goes, to depot 1, by this worker; there being none: ErrNone
	for _, x := range []struct {
		q     int
		wants []int
	}{
		{0, []int{0, 128, 0, 192}},
		{1, []int{0, 64, 0, 192}},
		{2, []int{0, 64, 0, 128}},
		{3, []int{0, 128, 0, 192}},
		{4, []int{0, 64, 0, 192}},
		{11, []int{0, 64, 0, 128}},
		{300, []int{0, 128, 0, 192}},
	} {
		r := bare(t, 8)
		r.steps(takes, 0, 0, 0)
		r.loose(0, 64, 0, 128, 0, 192)
		r.step(gives, x.q, 0)
		r.loose(x.wants...)
		r.lies(1, 1-x.q%2, 0)
		r.lies(1, x.q%2, 1)
		r.held(0, 0, 0)
		r.steps(gives, 0, 0)
		r.loose()
		first := r.sight()
		for q := range 4 {
			r.step(gives, q, 4)
		}
		if r.sight() != first {
			t.Error(r.sight())
		}
	}
}

func TestGiveIsTheHouses(t *testing.T) { // P101: where the object's node is Low pages are asked back
	r := start(t, nodes(0, 1, 1, 4, 4))
	r.steps(takes, 0, 0, 0, 0)
	r.loose(0, 64, 0, 128, 0, 192, 1, 0)
	r.step(gives, 3, 0) // node 1 is not Low: it stays in worker 1's magazine
	r.held(1, 1, 0)
	r.free(0, 3)
	r.step(gives, 0, 0) // node 0 is: it does not stay in worker 0's
	r.held(1, 1, 0)
	r.free(1, 3)
}

func TestGivenBackPast(t *testing.T) { // P101: the house's ErrStale, where somebody gave it back past the play: it goes all the same
	r := bare(t, 8)
	r.steps(takes, 0, 0)
	if err := r.p.House().Give(1, 0, api.Object{At: 64}); err != nil {
		t.Fatal(err)
	}
	r.step(gives, 0, 9)
	r.loose(0, 128)
	r.step(gives, 0, 0)
	r.step(gives, 0, 4)
	r.held(1, 2, 0)
}

func TestTakeOfAny(t *testing.T) { // P120: of depot 1, by any worker, at any node: loose as what a step took
	r := bare(t, 4, 4, 4)
	for i, x := range []struct {
		worker, node int
		want         api.Object
	}{
		{0, 1, api.Object{Node: 1}}, {1, 1, api.Object{Node: 1, At: 64}}, {1, 0, api.Object{At: 64}}, {0, 2, api.Object{Node: 2}},
	} {
		if o, err := r.p.Take(x.worker, x.node); o != x.want || err != nil {
			t.Fatal(i, o, err)
		}
	}
	r.steps(takes, 0)
	r.loose(1, 0, 1, 64, 0, 64, 2, 0, 0, 128)
	r.taken(0, 0, 0, 0, 16)
	r.step(gives, 6, 0) // {1 64}, by worker 0: to whom it is at hand
	if o, err := r.p.Take(0, 2); o != (api.Object{Node: 1, At: 64}) || err != nil {
		t.Error(o, err)
	}
	r.loose(1, 0, 0, 64, 2, 0, 0, 128, 1, 64)
	first := r.sight()
	for _, who := range [][2]int{{2, 0}, {-1, 0}, {0, 3}, {1, -1}, {math.MinInt, math.MaxInt}, {math.MaxInt, 0}} {
		if o, err := r.p.Take(who[0], who[1]); o != (api.Object{}) || err != api.ErrBound || r.sight() != first {
			t.Error(who, o, err)
		}
	}
	r.sound()
}

func TestTakeOfAnyInVain(t *testing.T) { // P120: the house's: the last page is had, then nothing, and nothing more is loose
	r := start(t, nodes(1, 1, 2, 3))
	for _, want := range []int{0, 64} {
		if o, err := r.p.Take(1, 0); o != (api.Object{At: want}) || err != nil {
			t.Error(o, err)
		}
	}
	if o, err := r.p.Take(0, 0); o != (api.Object{}) || err != api.ErrFull {
		t.Error(o, err)
	}
	r.loose(0, 0, 0, 64)
}

func TestGiveOfAny(t *testing.T) { // P120: by this worker: not loose any more, the others in their order; what is refused stays
	r := bare(t, 8)
	r.steps(takes, 0, 0, 0)
	if err := r.p.Give(1, api.Object{At: 128}); err != nil {
		t.Fatal(err)
	}
	r.loose(0, 64, 0, 192)
	first := r.sight()
	for _, x := range []struct {
		worker int
		o      api.Object
		want   error
	}{
		{1, api.Object{At: 128}, api.ErrStale}, {0, api.Object{}, api.ErrStale}, {0, api.Object{Node: 1, At: 64}, api.ErrStale},
		{0, api.Object{Node: math.MinInt, At: math.MaxInt}, api.ErrStale}, {2, api.Object{At: 64}, api.ErrBound}, {-1, api.Object{At: 64}, api.ErrBound},
	} {
		if err := r.p.Give(x.worker, x.o); err != x.want || r.sight() != first {
			t.Error(x, err)
		}
	}
	r.step(takes, 1, 0)
	r.loose(0, 64, 0, 192, 0, 128)
	for i, at := range []int{64, 128, 192} {
		if err := r.p.Give(0, api.Object{At: at}); err != nil {
			t.Error(i, err)
		}
	}
	r.loose()
	r.step(gives, 0, 4)
	r.lies(1, 0, 3)
	r.sound()
}

func TestGiveOfAnyAsksBack(t *testing.T) { // P120: the house's: where the object's node is Low
	r := start(t, nodes(0, 2, 2, 4))
	r.steps(takes, 0, 0, 0)
	if err := r.p.Give(0, api.Object{At: 128}); err != nil {
		t.Error(err)
	}
	r.held(1, 0, 0)
	r.free(1)
}

func TestGivenBackPastAndTakenAgain(t *testing.T) { // P120: whatever somebody gave back past the play, and was taken again then
	r := bare(t, 8)
	r.steps(takes, 0)
	if err := r.p.House().Give(1, 0, api.Object{At: 64}); err != nil {
		t.Fatal(err)
	}
	if o, err := r.p.Take(0, 0); o != (api.Object{At: 64}) || err != nil {
		t.Fatal(o, err)
	}
	r.loose(0, 64, 0, 64)
	if err := r.p.Give(0, api.Object{At: 64}); err != nil {
		t.Error(err)
	}
	r.loose()
}

func TestReclaim(t *testing.T) { // P101: of this node; however many came, 0
	c := nodes(0, 0, 5, 4, 4, 4)
	for q := range 7 {
		r := start(t, c)
		for node := range 3 { // a slab of each node is free
			r.steps(takes, node)
			r.steps(gives, 0)
			r.lies(1, 0, 1)
		}
		wants := []int{2, 3, 3}
		r.free(wants...)
		r.step(reclaims, q, 0)
		wants[q%3]++
		r.free(wants...)
		r.step(reclaims, q, 0)
		r.free(wants...)
	}
}

// piled is a play where five objects of each depot lie in worker 0's magazines, three in worker 1's, and four on the pile.
func piled(t *testing.T) rig {
	t.Helper()
	r := bare(t, 40)
	for range 12 {
		r.steps(makes, 1)
		r.steps(takes, 0)
	}
	for _, q := range []int{0, 0, 0, 0, 0, 0, 0, 0, 0, 1, 1, 1} {
		r.steps(frees, q)
		r.steps(gives, q)
	}
	r.held(0, 8, 4)
	r.held(1, 8, 4)
	return r
}

func TestDrain(t *testing.T) { // P101: depot 0's, of this worker; however many there are, 0
	for q := range 4 {
		r := piled(t)
		r.step(drains, q, 0)
		r.held(0, []int{3, 5}[q%2], 4)
		r.held(1, 8, 4)
		r.lies(0, q%2, 0)
		r.step(drains, q+2, 0)
		r.step(drains, q+1, 0)
		r.held(0, 0, 4)
		r.held(1, 8, 4)
	}
}

func TestEmpty(t *testing.T) { // P101: depot 1's pile; 0
	for q := range 4 {
		r := piled(t)
		r.step(empties, q, 0)
		r.held(0, 8, 4)
		r.held(1, 8, 0)
		r.step(empties, q, 0)
		r.held(1, 8, 0)
	}
}

func TestErrors(t *testing.T) { // P101: an error's number: ErrFull, ErrWait, ErrMany of what is asked
	r := bare(t, 32)
	for range 40 {
		r.step(makes, 0, 0)
	}
	for _, kind := range []int{makes, clones, clonesOn, splits, clonesToo} {
		first := r.sight()
		r.step(kind, 1, 5)
		if r.sight() != first {
			t.Error(kind, r.sight())
		}
	}

	r = bare(t, 1)
	for range 4 {
		r.step(makes, 11, 0)
	}
	r.step(makes, 11, 8)
	r.step(makes, 0, 0)
	r.steps(clones, 0)
	for _, kind := range []int{writes, writesToo} {
		r.step(kind, 0, 8)
		r.step(kind, 5, 8)  // of the clone
		r.step(kind, 11, 0) // at its end
		r.step(kind, 2, 0)
	}
	r.buffers(1, "b11", 2, "b11", 3, "b1w", 4, "b11", 5, "", 6, "b11")
}

func TestManyErrors(t *testing.T) { // P101: ErrMany: holders, parts
	r := bare(t, 32)
	r.step(makes, 1, 0)
	for range 15 {
		r.step(clones, 0, 0)
	}
	for _, kind := range []int{clones, clonesToo, clonesOn} {
		r.step(kind, 0, 10)
	}
	r.step(splits, 16, 10) // at 1
	r.step(splits, 0, 0)   // nothing is cut
	for k := range 12 {
		r.step(joins, 1, 0)
		if n, err := r.p.Yard().Parts(1); n != k+1 || err != nil {
			t.Fatal(k, n, err)
		}
	}
	first := r.sight()
	r.step(joins, 1, 10)
	if r.sight() != first {
		t.Error(r.sight())
	}
}
