package buddy_test

import (
	"fmt"
	"math"
	"slices"
	"testing"

	"slabyard/api"
	"slabyard/buddy"
	"slabyard/frames"
)

// model is what buddies ought to be, told by their taken blocks alone: each free page is in the widest block that is free throughout.
type model struct {
	pages int
	taken []api.Block
}

// size by doubling, not by the shifts that are tested.
func size(order int) int {
	n := 1
	for range order {
		n *= 2
	}
	return n
}

func (m model) free() []api.Block {
	held := make([]bool, m.pages)
	for _, x := range m.taken {
		for at := x.At; at < x.At+size(x.Order); at++ {
			held[at] = true
		}
	}
	var l []api.Block
	for at := 0; at < m.pages; {
		k := 6
		for k >= 0 && (at%size(k) != 0 || at+size(k) > m.pages || slices.Contains(held[at:at+size(k)], true)) {
			k--
		}
		if k < 0 {
			at++
			continue
		}
		l = append(l, api.Block{At: at, Order: k})
		at += size(k)
	}
	return l
}

func (m model) take(order int) (model, api.Block, error) {
	if order < 0 || order > 6 {
		return m, api.Block{}, api.ErrBound
	}
	for k := order; k <= 6; k++ {
		for _, x := range m.free() {
			if x.Order == k {
				y := api.Block{At: x.At, Order: order}
				return m.with(nil, y), y, nil
			}
		}
	}
	return m, api.Block{}, api.ErrFull
}

func (m model) give(x api.Block) (model, error) {
	if !slices.Contains(m.taken, x) {
		return m, api.ErrNone
	}
	return m.with(&x), nil
}

func (m model) split(x api.Block) (model, error) {
	if !slices.Contains(m.taken, x) {
		return m, api.ErrNone
	}
	if x.Order == 0 {
		return m, api.ErrShape
	}
	return m.with(&x, api.Block{At: x.At, Order: x.Order - 1}, api.Block{At: x.At + size(x.Order)/2, Order: x.Order - 1}), nil
}

// with is the model without one taken block, and with others.
func (m model) with(without *api.Block, others ...api.Block) model {
	l := slices.Clone(m.taken)
	if without != nil {
		l = slices.DeleteFunc(l, func(x api.Block) bool { return x == *without })
	}
	l = append(l, others...)
	slices.SortFunc(l, func(x, y api.Block) int { return x.At - y.At })
	return model{m.pages, l}
}

// same holds buddies against the model.
func same(t *testing.T, b *buddy.Buddy, m model) {
	t.Helper()
	want := m.free()
	if !slices.Equal(b.Free(), want) || !slices.Equal(b.Taken(), m.taken) {
		t.Fatalf("%d pages: free %v, taken %v; want %v, %v", m.pages, b.Free(), b.Taken(), want, m.taken)
	}
	n := 0
	for _, x := range want {
		n += size(x.Order)
	}
	if free, all := b.Pages(); free != n || all != m.pages {
		t.Fatalf("Pages: %d, %d; want %d, %d", free, all, n, m.pages)
	}
}

// always is P23 without the model: each page in one block, and no two free buddies.
func always(t *testing.T, b *buddy.Buddy, pages int) {
	t.Helper()
	in := make([]int, pages)
	free := b.Free()
	for _, x := range append(b.Taken(), free...) {
		if err := frames.Check(x, pages); err != nil {
			t.Fatal(x, err)
		}
		for at := x.At; at < x.At+size(x.Order); at++ {
			in[at]++
		}
	}
	for at, n := range in {
		if n != 1 {
			t.Fatalf("page %d is in %d blocks", at, n)
		}
	}
	for _, x := range free {
		if y, err := frames.Buddy(x); err == nil && slices.Contains(free, y) {
			t.Fatalf("%v and %v are free", x, y)
		}
	}
}

func start(t *testing.T, pages int) *buddy.Buddy {
	t.Helper()
	b, err := buddy.New(pages)
	if err != nil {
		t.Fatal(pages, err)
	}
	return b
}

// take takes an order, which must be given.
func take(t *testing.T, b *buddy.Buddy, order int) api.Block {
	t.Helper()
	x, err := b.Take(order)
	if err != nil {
		t.Fatal(order, err)
	}
	return x
}

func see(t *testing.T, b *buddy.Buddy, free, taken string) {
	t.Helper()
	if f, k := fmt.Sprint(b.Free()), fmt.Sprint(b.Taken()); f != free || k != taken {
		t.Fatalf("free %s, taken %s; want %s, %s", f, k, free, taken)
	}
}

func TestNew(t *testing.T) { // P20: all pages free, as Cover tells
	for pages := 1; pages <= 256; pages++ {
		b := start(t, pages)
		cover, err := frames.Cover(0, pages)
		if err != nil || !slices.Equal(b.Free(), cover) {
			t.Fatal(pages, b.Free(), cover, err)
		}
		same(t, b, model{pages: pages})
		always(t, b, pages)
	}
	see(t, start(t, 6), "[{0 2} {4 1}]", "[]")
	see(t, start(t, 256), "[{0 6} {64 6} {128 6} {192 6}]", "[]")
	for _, pages := range []int{math.MinInt, -256, -1, 0, 257, 1 << 32, 1<<32 + 1, math.MaxInt} {
		if b, err := buddy.New(pages); b != nil || err != api.ErrBound {
			t.Error(pages, b, err)
		}
	}
}

func TestTake(t *testing.T) { // P20: the least order that will do, the first of these, the upper halves free
	b := start(t, 6)
	for _, c := range []struct {
		order       int
		want        api.Block
		free, taken string
	}{
		{0, api.Block{At: 4}, "[{0 2} {5 0}]", "[{4 0}]"},
		{1, api.Block{Order: 1}, "[{2 1} {5 0}]", "[{0 1} {4 0}]"},
		{0, api.Block{At: 5}, "[{2 1}]", "[{0 1} {4 0} {5 0}]"},
		{0, api.Block{At: 2}, "[{3 0}]", "[{0 1} {2 0} {4 0} {5 0}]"},
		{0, api.Block{At: 3}, "[]", "[{0 1} {2 0} {3 0} {4 0} {5 0}]"},
	} {
		if x := take(t, b, c.order); x != c.want {
			t.Fatal(c.order, x, c.want)
		}
		see(t, b, c.free, c.taken)
	}
	b = start(t, 256)
	if x := take(t, b, 0); x != (api.Block{}) {
		t.Error(x)
	}
	see(t, b, "[{1 0} {2 1} {4 2} {8 3} {16 4} {32 5} {64 6} {128 6} {192 6}]", "[{0 0}]")
	if x := take(t, b, 6); x != (api.Block{At: 64, Order: 6}) {
		t.Error(x)
	}
}

func TestTakeErrors(t *testing.T) { // P20: ErrBound, ErrFull, and nothing changed; P3
	b := start(t, 5)
	wrong := func(order int, want error) {
		t.Helper()
		free, taken := fmt.Sprint(b.Free()), fmt.Sprint(b.Taken())
		if x, err := b.Take(order); x != (api.Block{}) || err != want {
			t.Error(order, x, err)
		}
		see(t, b, free, taken)
	}
	for _, order := range []int{math.MinInt, -64, -1, 7, 8, 63, 64, 1 << 32, math.MaxInt} {
		wrong(order, api.ErrBound)
	}
	for order := 3; order <= 6; order++ {
		wrong(order, api.ErrFull)
	}
	take(t, b, 2)
	for order := 1; order <= 6; order++ {
		wrong(order, api.ErrFull)
	}
	take(t, b, 0)
	wrong(0, api.ErrFull)
	wrong(-1, api.ErrBound)
	wrong(7, api.ErrBound)
}

func TestGive(t *testing.T) { // P21: joined with its buddy, as long as that is free and whole
	b := start(t, 6)
	for range 6 {
		take(t, b, 0)
	}
	for _, c := range []struct {
		at   int
		free string
	}{
		{1, "[{1 0}]"},
		{2, "[{1 0} {2 0}]"}, // side by side, but no buddies
		{3, "[{1 0} {2 1}]"}, // the buddy of {2 1} is not whole
		{4, "[{1 0} {2 1} {4 0}]"},
		{0, "[{0 2} {4 0}]"}, // two steps at once
		{5, "[{0 2} {4 1}]"}, // the buddy of {4 1} is beyond the pages
	} {
		if err := b.Give(api.Block{At: c.at}); err != nil {
			t.Fatal(c.at, err)
		}
		if got := fmt.Sprint(b.Free()); got != c.free {
			t.Fatal(c.at, got, c.free)
		}
	}
	b = start(t, 128)
	x, y := take(t, b, 6), take(t, b, 6)
	if b.Give(x) != nil || b.Give(y) != nil {
		t.Error(x, y)
	}
	see(t, b, "[{0 6} {64 6}]", "[]") // no block is wider than MaxOrder's
}

// odd are blocks that nobody takes, whatever the pages.
var odd = []api.Block{{At: -1}, {At: -1, Order: 99}, {At: math.MinInt, Order: math.MinInt}, {At: math.MaxInt, Order: math.MaxInt}, {Order: -1}, {Order: 7}, {Order: 64}, {At: 256}, {At: 1, Order: 1}, {At: 3, Order: 6}, {At: 1 << 32}}

func TestGiveErrors(t *testing.T) { // P21: ErrNone where it is none that is taken, just so
	b := start(t, 8)
	x := take(t, b, 1)
	wrong := func(y api.Block) {
		t.Helper()
		free, taken := fmt.Sprint(b.Free()), fmt.Sprint(b.Taken())
		if err := b.Give(y); err != api.ErrNone {
			t.Error(y, err)
		}
		if err := b.Split(y); err != api.ErrNone {
			t.Error(y, err)
		}
		see(t, b, free, taken)
	}
	for _, y := range odd {
		wrong(y)
	}
	for _, y := range []api.Block{{At: 0}, {At: 1}, {Order: 2}, {At: 2, Order: 1}, {At: 4, Order: 2}, {At: 5}, {Order: 3}} {
		wrong(y)
	}
	if err := b.Give(x); err != nil {
		t.Error(err)
	}
	wrong(x) // twice
}

func TestSplit(t *testing.T) { // P21: taken as one, then as its halves
	b := start(t, 64)
	take(t, b, 6)
	for _, c := range []struct {
		x     api.Block
		taken string
	}{
		{api.Block{Order: 6}, "[{0 5} {32 5}]"},
		{api.Block{At: 32, Order: 5}, "[{0 5} {32 4} {48 4}]"},
		{api.Block{At: 48, Order: 4}, "[{0 5} {32 4} {48 3} {56 3}]"},
	} {
		if err := b.Split(c.x); err != nil {
			t.Fatal(c.x, err)
		}
		see(t, b, "[]", c.taken)
		if err := b.Split(c.x); err != api.ErrNone { // twice
			t.Error(c.x, err)
		}
		if err := b.Give(c.x); err != api.ErrNone { // the whole is taken no more
			t.Error(c.x, err)
		}
	}
	if err := b.Give(api.Block{At: 48, Order: 3}); err != nil {
		t.Error(err)
	}
	see(t, b, "[{48 3}]", "[{0 5} {32 4} {56 3}]")
}

func TestSplitShape(t *testing.T) { // P21: ErrShape, and ErrNone ahead of it
	b := start(t, 2)
	if err := b.Split(api.Block{}); err != api.ErrNone {
		t.Error(err)
	}
	x := take(t, b, 0)
	if err := b.Split(x); err != api.ErrShape {
		t.Error(err)
	}
	see(t, b, "[{1 0}]", "[{0 0}]")
}

func TestLists(t *testing.T) { // P22: rising, and new memory (P4)
	b := start(t, 100)
	for _, order := range []int{0, 3, 1, 0, 2, 5} {
		take(t, b, order)
	}
	b.Give(api.Block{At: 96})
	free, taken := b.Free(), b.Taken()
	for _, l := range [][]api.Block{free, taken} {
		if len(l) < 2 || !slices.IsSortedFunc(l, func(x, y api.Block) int { return x.At - y.At }) {
			t.Error(l)
		}
	}
	f, k := fmt.Sprint(free), fmt.Sprint(taken)
	for _, l := range [][]api.Block{free, taken} {
		for i := range l {
			l[i] = api.Block{At: 7, Order: 7}
		}
	}
	see(t, b, f, k)
}

func TestPages(t *testing.T) { // P22
	b := start(t, 100)
	for _, c := range []struct{ order, free int }{{0, 99}, {2, 95}, {6, 31}, {3, 23}} {
		take(t, b, c.order)
		if free, all := b.Pages(); free != c.free || all != 100 {
			t.Error(c.order, free, all)
		}
	}
	b.Give(api.Block{Order: 6})
	if free, all := b.Pages(); free != 87 || all != 100 {
		t.Error(free, all)
	}
}

func TestCopy(t *testing.T) { // P22: neither sees what becomes of the other (P4)
	b := start(t, 16)
	x := take(t, b, 2)
	c := b.Copy()
	see(t, c, "[{4 2} {8 3}]", "[{0 2}]")
	if err := b.Give(x); err != nil {
		t.Error(err)
	}
	see(t, b, "[{0 4}]", "[]")
	see(t, c, "[{4 2} {8 3}]", "[{0 2}]")
	take(t, c, 3)
	if err := c.Split(x); err != nil {
		t.Error(err)
	}
	see(t, c, "[{4 2}]", "[{0 1} {2 1} {8 3}]")
	see(t, b, "[{0 4}]", "[]")
	if free, all := c.Pages(); free != 4 || all != 16 {
		t.Error(free, all)
	}
}

// calls are all that may be asked of so many pages, and some that may not.
func calls(pages int) (orders []int, blocks []api.Block) {
	for k := -1; k <= 7; k++ {
		orders = append(orders, k)
		for at := -1; at <= pages; at++ {
			blocks = append(blocks, api.Block{At: at, Order: k})
		}
	}
	return orders, append(blocks, odd...)
}

func TestAllStates(t *testing.T) { // P20, P21, P23: each state that few pages can come to, and each call there
	type state struct {
		b *buddy.Buddy
		m model
	}
	for pages := 1; pages <= 7; pages++ {
		orders, blocks := calls(pages)
		seen := map[string]bool{"[]": true}
		work := []state{{start(t, pages), model{pages: pages}}}
		reach := func(b *buddy.Buddy, m model, err, want error) {
			if err != want {
				t.Fatal(pages, err, want, m)
			}
			same(t, b, m)
			always(t, b, pages)
			if key := fmt.Sprint(m.taken); !seen[key] {
				seen[key] = true
				work = append(work, state{b, m})
			}
		}
		for len(work) > 0 {
			s := work[0]
			work = work[1:]
			for _, k := range orders {
				b := s.b.Copy()
				x, err := b.Take(k)
				m, y, want := s.m.take(k)
				if x != y {
					t.Fatal(pages, k, x, y, s.m)
				}
				reach(b, m, err, want)
			}
			for _, x := range blocks {
				b := s.b.Copy()
				err := b.Give(x)
				m, want := s.m.give(x)
				reach(b, m, err, want)
				b = s.b.Copy()
				err = b.Split(x)
				m, want = s.m.split(x)
				reach(b, m, err, want)
			}
			same(t, s.b, s.m) // what became of its copies does not show
		}
	}
}

func TestWalk(t *testing.T) { // P20, P21, P23: long ways over many pages, and back to the beginning
	for _, pages := range []int{1, 2, 63, 64, 65, 100, 127, 128, 200, 255, 256} {
		b, m := start(t, pages), model{pages: pages}
		seed := uint32(pages)
		next := func(n int) int {
			seed = seed*1664525 + 1013904223
			return int(seed>>8) % n
		}
		for range 600 {
			var err, want error
			kind := next(8)
			switch {
			case kind < 4 || len(m.taken) == 0:
				var x, y api.Block
				k := min(next(7), next(7))
				x, err = b.Take(k)
				if m, y, want = m.take(k); x != y {
					t.Fatal(pages, k, x, y)
				}
			case kind < 7:
				x := m.taken[next(len(m.taken))]
				err = b.Give(x)
				m, want = m.give(x)
			default:
				x := m.taken[next(len(m.taken))]
				err = b.Split(x)
				m, want = m.split(x)
			}
			if err != want {
				t.Fatal(pages, err, want)
			}
			same(t, b, m)
			always(t, b, pages)
		}
		for len(m.taken) > 0 {
			x := m.taken[next(len(m.taken))]
			if err := b.Give(x); err != nil {
				t.Fatal(pages, x, err)
			}
			m, _ = m.give(x)
		}
		if !slices.Equal(b.Free(), start(t, pages).Free()) || len(b.Taken()) != 0 {
			t.Error(pages, b.Free(), b.Taken())
		}
	}
}

func TestSameAnswers(t *testing.T) { // P2: the same calls, the same answers
	tell := func() (s string) {
		b := start(t, 77)
		for i := range 40 {
			x, err := b.Take(i * i % 4)
			s += fmt.Sprint(x, err)
			if i%3 == 0 {
				s += fmt.Sprint(b.Give(x), b.Free(), b.Taken())
			}
		}
		return s
	}
	first := tell()
	for range 20 {
		if got := tell(); got != first {
			t.Fatal(got, first)
		}
	}
}
