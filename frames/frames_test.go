package frames_test

import (
	"math"
	"slices"
	"testing"

	"slabyard/api"
	"slabyard/frames"
)

// odd are numbers at and beyond the edges of pages, orders and ints.
var odd = []int{math.MinInt, math.MinInt + 1, -1 << 32, -257, -256, -64, -7, -6, -2, -1, 0, 1, 2, 5, 6, 7, 8, 63, 64, 65, 128, 192, 193, 254, 255, 256, 257, 1 << 31, 1 << 32, 1<<62 - 1, 1 << 62, math.MaxInt - 1, math.MaxInt}

// blocks are all blocks within MaxPages.
func blocks() []api.Block {
	var l []api.Block
	for k, size := 0, 1; k <= 6; k, size = k+1, size*2 {
		for at := 0; at < 256; at += size {
			l = append(l, api.Block{At: at, Order: k})
		}
	}
	return l
}

// size by doubling, not by the shifts that are tested.
func size(order int) int {
	n := 1
	for range order {
		n *= 2
	}
	return n
}

func TestCheck(t *testing.T) { // P10
	for _, c := range []struct {
		b     api.Block
		pages int
		want  error
	}{
		{api.Block{At: 0, Order: 0}, 1, nil},
		{api.Block{At: 1, Order: 0}, 1, api.ErrBound},
		{api.Block{At: 12, Order: 2}, 16, nil},
		{api.Block{At: 12, Order: 2}, 15, api.ErrBound},
		{api.Block{At: 192, Order: 6}, 256, nil},
		{api.Block{At: 192, Order: 6}, 255, api.ErrBound},
		{api.Block{At: 255, Order: 0}, 256, nil},
		{api.Block{At: 256, Order: 0}, 256, api.ErrBound},
		{api.Block{At: 0, Order: 0}, 0, api.ErrBound},
		{api.Block{At: 0, Order: 0}, -1, api.ErrBound},
		{api.Block{At: 0, Order: 0}, 257, api.ErrBound},
		{api.Block{At: 0, Order: 0}, math.MaxInt, api.ErrBound},
		{api.Block{At: 0, Order: -1}, 256, api.ErrBound},
		{api.Block{At: 0, Order: 7}, 256, api.ErrBound},
		{api.Block{At: 0, Order: 64}, 256, api.ErrBound},
		{api.Block{At: 0, Order: math.MinInt}, 256, api.ErrBound},
		{api.Block{At: -1, Order: 0}, 256, api.ErrBound},
		{api.Block{At: -4, Order: 2}, 256, api.ErrBound},
		{api.Block{At: math.MinInt, Order: 6}, 256, api.ErrBound},
		{api.Block{At: math.MaxInt, Order: 0}, 256, api.ErrBound},
		{api.Block{At: math.MaxInt - 63, Order: 6}, 256, api.ErrBound},
		{api.Block{At: 1, Order: 1}, 256, api.ErrShape},
		{api.Block{At: 2, Order: 2}, 6, api.ErrShape},
		{api.Block{At: 32, Order: 6}, 256, api.ErrShape},
		// Both are so: the bound is named first.
		{api.Block{At: 2, Order: 2}, 5, api.ErrBound},
		{api.Block{At: 255, Order: 1}, 256, api.ErrBound},
		{api.Block{At: -1, Order: 1}, 256, api.ErrBound},
		{api.Block{At: 1, Order: 1}, 0, api.ErrBound},
	} {
		if err := frames.Check(c.b, c.pages); err != c.want {
			t.Errorf("Check(%v, %d) = %v, want %v", c.b, c.pages, err, c.want)
		}
	}
}

func TestCheckIsAsTold(t *testing.T) { // P10
	for pages := -2; pages <= 259; pages++ {
		for order := -1; order <= 7; order++ {
			for at := -3; at <= 260; at++ {
				var want error
				switch {
				case pages < 1 || pages > 256 || order < 0 || order > 6 || at < 0 || at+size(order) > pages:
					want = api.ErrBound
				case at%size(order) != 0:
					want = api.ErrShape
				}
				b := api.Block{At: at, Order: order}
				if err := frames.Check(b, pages); err != want {
					t.Fatalf("Check(%v, %d) = %v, want %v", b, pages, err, want)
				}
			}
		}
	}
}

func TestSize(t *testing.T) { // P10
	for k, want := range []int{1, 2, 4, 8, 16, 32, 64} {
		if n, err := frames.Size(k); n != want || err != nil {
			t.Errorf("Size(%d) = %d, %v, want %d", k, n, err, want)
		}
	}
	for _, k := range odd {
		if k >= 0 && k <= 6 {
			continue
		}
		if n, err := frames.Size(k); n != 0 || err != api.ErrBound {
			t.Errorf("Size(%d) = %d, %v, want ErrBound", k, n, err)
		}
	}
}

func TestOrder(t *testing.T) { // P10
	for n := 1; n <= 64; n++ {
		want := 0
		for size(want) < n {
			want++
		}
		if k, err := frames.Order(n); k != want || err != nil {
			t.Errorf("Order(%d) = %d, %v, want %d", n, k, err, want)
		}
	}
	for _, n := range odd {
		if n >= 1 && n <= 64 {
			continue
		}
		if k, err := frames.Order(n); k != 0 || err != api.ErrBound {
			t.Errorf("Order(%d) = %d, %v, want ErrBound", n, k, err)
		}
	}
}

func TestBuddyParentHalves(t *testing.T) { // P11
	for _, c := range []struct{ b, buddy, parent, low, high api.Block }{
		{api.Block{At: 12, Order: 2}, api.Block{At: 8, Order: 2}, api.Block{At: 8, Order: 3}, api.Block{At: 12, Order: 1}, api.Block{At: 14, Order: 1}},
		{api.Block{At: 8, Order: 2}, api.Block{At: 12, Order: 2}, api.Block{At: 8, Order: 3}, api.Block{At: 8, Order: 1}, api.Block{At: 10, Order: 1}},
		{api.Block{At: 0, Order: 1}, api.Block{At: 2, Order: 1}, api.Block{At: 0, Order: 2}, api.Block{At: 0, Order: 0}, api.Block{At: 1, Order: 0}},
		{api.Block{At: 224, Order: 5}, api.Block{At: 192, Order: 5}, api.Block{At: 192, Order: 6}, api.Block{At: 224, Order: 4}, api.Block{At: 240, Order: 4}},
	} {
		if x, err := frames.Buddy(c.b); x != c.buddy || err != nil {
			t.Errorf("Buddy(%v) = %v, %v, want %v", c.b, x, err, c.buddy)
		}
		if x, err := frames.Parent(c.b); x != c.parent || err != nil {
			t.Errorf("Parent(%v) = %v, %v, want %v", c.b, x, err, c.parent)
		}
		if low, high, err := frames.Halves(c.b); low != c.low || high != c.high || err != nil {
			t.Errorf("Halves(%v) = %v, %v, %v, want %v, %v", c.b, low, high, err, c.low, c.high)
		}
	}
	if x, err := frames.Buddy(api.Block{At: 254}); x != (api.Block{At: 255}) || err != nil {
		t.Error("buddy of page 254", x, err)
	}
	if x, err := frames.Parent(api.Block{At: 255}); x != (api.Block{At: 254, Order: 1}) || err != nil {
		t.Error("parent of page 255", x, err)
	}
	low, high, err := frames.Halves(api.Block{At: 192, Order: 6})
	if low != (api.Block{At: 192, Order: 5}) || high != (api.Block{At: 224, Order: 5}) || err != nil {
		t.Error("halves of the last one of the greatest order", low, high, err)
	}
}

func TestBuddyParentHalvesErrors(t *testing.T) { // P11
	for _, c := range []struct {
		b        api.Block
		up, down error
	}{
		{api.Block{At: 0, Order: 6}, api.ErrNone, nil},
		{api.Block{At: 192, Order: 6}, api.ErrNone, nil},
		{api.Block{At: 0, Order: 0}, nil, api.ErrNone},
		{api.Block{At: 255, Order: 0}, nil, api.ErrNone},
		{api.Block{At: 256, Order: 0}, api.ErrBound, api.ErrBound},
		{api.Block{At: 256, Order: 6}, api.ErrBound, api.ErrBound},
		{api.Block{At: -1, Order: 0}, api.ErrBound, api.ErrBound},
		{api.Block{At: -64, Order: 6}, api.ErrBound, api.ErrBound},
		{api.Block{At: 0, Order: -1}, api.ErrBound, api.ErrBound},
		{api.Block{At: 0, Order: 7}, api.ErrBound, api.ErrBound},
		{api.Block{At: 257, Order: 1}, api.ErrBound, api.ErrBound},
		{api.Block{At: 1, Order: 1}, api.ErrShape, api.ErrShape},
		{api.Block{At: 32, Order: 6}, api.ErrShape, api.ErrShape},
		// Where it begins is within the pages, only its end is not: that is no bound here, as it is in Check.
		{api.Block{At: 255, Order: 1}, api.ErrShape, api.ErrShape},
		{api.Block{At: 200, Order: 6}, api.ErrShape, api.ErrShape},
	} {
		buddy, e1 := frames.Buddy(c.b)
		parent, e2 := frames.Parent(c.b)
		low, high, e3 := frames.Halves(c.b)
		if e1 != c.up || e2 != c.up || e3 != c.down {
			t.Errorf("%v: Buddy %v, Parent %v, want %v; Halves %v, want %v", c.b, e1, e2, c.up, e3, c.down)
		}
		none := api.Block{}
		if e1 != nil && buddy != none || e2 != nil && parent != none || e3 != nil && (low != none || high != none) {
			t.Errorf("%v: with an error: %v, %v, %v, %v", c.b, buddy, parent, low, high)
		}
	}
}

func TestCover(t *testing.T) { // P12
	for _, c := range []struct {
		at, n int
		want  []api.Block
	}{
		{0, 0, nil},
		{256, 0, nil},
		{3, 0, nil},
		{255, 1, []api.Block{{At: 255, Order: 0}}},
		{0, 6, []api.Block{{At: 0, Order: 2}, {At: 4, Order: 1}}},
		{3, 6, []api.Block{{At: 3, Order: 0}, {At: 4, Order: 2}, {At: 8, Order: 0}}},
		{1, 63, []api.Block{{At: 1, Order: 0}, {At: 2, Order: 1}, {At: 4, Order: 2}, {At: 8, Order: 3}, {At: 16, Order: 4}, {At: 32, Order: 5}}},
		{0, 128, []api.Block{{At: 0, Order: 6}, {At: 64, Order: 6}}},
		{0, 256, []api.Block{{At: 0, Order: 6}, {At: 64, Order: 6}, {At: 128, Order: 6}, {At: 192, Order: 6}}},
	} {
		if l, err := frames.Cover(c.at, c.n); !slices.Equal(l, c.want) || err != nil {
			t.Errorf("Cover(%d, %d) = %v, %v, want %v", c.at, c.n, l, err, c.want)
		}
	}
}

func TestCoverErrors(t *testing.T) { // P12
	for _, at := range odd {
		for _, n := range odd {
			fits := at >= 0 && at <= 256 && n >= 0 && n <= 256 && at+n <= 256
			l, err := frames.Cover(at, n)
			if fits && err != nil || !fits && (err != api.ErrBound || len(l) != 0) {
				t.Errorf("Cover(%d, %d) = %v, %v", at, n, l, err)
			}
		}
	}
}

// fewest tells how many blocks at least are just pages at to end - 1, for each end, by trying all that end there.
func fewest(at int) []int {
	least := make([]int, 257)
	for end := at + 1; end <= 256; end++ {
		least[end] = 257
		for order := 0; order <= 6; order++ {
			if from := end - size(order); from >= at && from%size(order) == 0 {
				least[end] = min(least[end], least[from]+1)
			}
		}
	}
	return least
}

func TestCoverIsFewestRisingAndJustThose(t *testing.T) { // P12
	for at := 0; at <= 256; at++ {
		least := fewest(at)
		for n := 0; at+n <= 256; n++ {
			l, err := frames.Cover(at, n)
			if err != nil || len(l) != least[at+n] {
				t.Fatalf("Cover(%d, %d) = %v, %v, want %d blocks", at, n, l, err, least[at+n])
			}
			next := at
			for _, b := range l {
				if b.At != next || frames.Check(b, 256) != nil {
					t.Fatalf("Cover(%d, %d) = %v: %v", at, n, l, b)
				}
				next += size(b.Order)
			}
			if next != at+n {
				t.Fatalf("Cover(%d, %d) = %v ends at %d", at, n, l, next)
			}
		}
	}
}

func TestCoverIsNewMemory(t *testing.T) { // P4, P12
	first, _ := frames.Cover(3, 6)
	clear(first[:cap(first)])
	if second, err := frames.Cover(3, 6); !slices.Equal(second, []api.Block{{At: 3, Order: 0}, {At: 4, Order: 2}, {At: 8, Order: 0}}) || err != nil {
		t.Error(second, err)
	}
}

func TestBuddyOfBuddyAndParentOfBoth(t *testing.T) { // P13
	for _, b := range blocks() {
		if b.Order == 6 {
			continue
		}
		buddy, e1 := frames.Buddy(b)
		again, e2 := frames.Buddy(buddy)
		if again != b || buddy == b || e1 != nil || e2 != nil {
			t.Errorf("%v: buddy %v, its buddy %v, %v, %v", b, buddy, again, e1, e2)
		}
		p, e1 := frames.Parent(b)
		q, e2 := frames.Parent(buddy)
		if p != q || e1 != nil || e2 != nil || frames.Check(p, 256) != nil {
			t.Errorf("%v: parent %v, its buddy's %v, %v, %v", b, p, q, e1, e2)
		}
		low, high, err := frames.Halves(p)
		if both := []api.Block{low, high}; err != nil || !slices.Contains(both, b) || !slices.Contains(both, buddy) || low.At >= high.At {
			t.Errorf("%v: halves of its parent %v, %v", b, both, err)
		}
	}
}

func TestHalvesAreBuddies(t *testing.T) { // P13
	for _, b := range blocks() {
		if b.Order == 0 {
			continue
		}
		low, high, err := frames.Halves(b)
		if err != nil {
			t.Fatal(b, err)
		}
		if x, err := frames.Buddy(low); x != high || err != nil {
			t.Errorf("%v: buddy of %v is %v, %v, want %v", b, low, x, err, high)
		}
		for _, half := range []api.Block{low, high} {
			if p, err := frames.Parent(half); p != b || err != nil {
				t.Errorf("parent of %v is %v, %v, want %v", half, p, err, b)
			}
		}
	}
}

func TestOddNumbersEndInAnAnswer(t *testing.T) { // P1, P11
	for _, at := range odd {
		for _, order := range odd {
			b := api.Block{At: at, Order: order}
			within := at >= 0 && at < 256 && order >= 0 && order <= 6
			buddy, e1 := frames.Buddy(b)
			parent, e2 := frames.Parent(b)
			low, high, e3 := frames.Halves(b)
			if within {
				continue
			}
			none := api.Block{}
			if e1 != api.ErrBound || e2 != api.ErrBound || e3 != api.ErrBound || buddy != none || parent != none || low != none || high != none {
				t.Errorf("%v: %v %v, %v %v, %v %v %v", b, buddy, e1, parent, e2, low, high, e3)
			}
		}
	}
}
