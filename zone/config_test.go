package zone_test

import (
	"fmt"
	"math"
	"slices"
	"testing"

	"slabyard/api"
	"slabyard/zone"
)

// flat are n nodes with 8 pages each, 0 from themselves and 1 from each other one.
func flat(n int) zone.Config {
	c := zone.Config{Marks: api.Marks{Min: 1, Low: 2, High: 4}}
	for i := range n {
		far := slices.Repeat([]int{1}, n)
		far[i] = 0
		c.Pages = append(c.Pages, 8)
		c.Near = append(c.Near, far)
	}
	return c
}

// refused holds a config against an error, which all that take a config must tell; node is none of any config's.
func refused(t *testing.T, c zone.Config, want error) {
	t.Helper()
	if err := zone.Check(c); err != want {
		t.Errorf("Check(%v) = %v, want %v", c, err, want)
	}
	for _, node := range []int{0, 9} { // Check's errors go ahead of the node's
		if l, err := zone.Order(c, node); len(l) != 0 || err != want {
			t.Errorf("Order(%v, %d) = %v, %v, want %v", c, node, l, err, want)
		}
	}
	if z, err := zone.New(c); z != nil || err != want {
		t.Errorf("New(%v) = %v, %v, want %v", c, z, err, want)
	}
}

func accepted(t *testing.T, c zone.Config) {
	t.Helper()
	if err := zone.Check(c); err != nil {
		t.Errorf("Check(%v) = %v", c, err)
	}
	if l, err := zone.Order(c, 0); len(l) != len(c.Pages) || err != nil {
		t.Errorf("Order(%v, 0) = %v, %v", c, l, err)
	}
	if z, err := zone.New(c); z == nil || err != nil {
		t.Errorf("New(%v) = %v, %v", c, z, err)
	}
}

func TestHowManyNodes(t *testing.T) { // P30: from 1 to 4
	refused(t, zone.Config{}, api.ErrBound)
	refused(t, zone.Config{Pages: []int{}, Near: [][]int{}}, api.ErrBound)
	for n := 1; n <= 4; n++ {
		accepted(t, flat(n))
	}
	for _, n := range []int{5, 6, 300} {
		refused(t, flat(n), api.ErrBound)
	}
}

// wild are numbers far from all that is asked for.
var wild = []int{math.MinInt, math.MinInt + 1, -1 << 32, 1 << 32, 1<<32 + 1, math.MaxInt - 1, math.MaxInt}

func TestHowManyPages(t *testing.T) { // P30: from 1 to 256, of each node
	for n := 1; n <= 4; n++ {
		for node := range n {
			c := flat(n)
			for _, c.Pages[node] = range []int{1, 2, 255, 256} {
				accepted(t, c)
			}
			for _, c.Pages[node] = range append([]int{-1, 0, 257, 258}, wild...) {
				refused(t, c, api.ErrBound)
			}
		}
	}
}

func TestHowFar(t *testing.T) { // P30: from 0 to 1000, of each from each
	for n := 1; n <= 4; n++ {
		for i := range n {
			for j := range n {
				c := flat(n)
				for _, c.Near[i][j] = range append([]int{-1, 1001}, wild...) {
					refused(t, c, api.ErrBound)
				}
				if i != j {
					for _, c.Near[i][j] = range []int{1, 2, 999, 1000} {
						accepted(t, c)
					}
				}
			}
		}
	}
	accepted(t, zone.Config{Pages: []int{1}, Near: [][]int{{1000}}})
	accepted(t, zone.Config{Pages: []int{1, 1}, Near: [][]int{{999, 1000}, {1000, 999}}}) // a node need not be 0 from itself
}

func TestMarks(t *testing.T) { // P30: 0 <= Min <= Low <= High
	values := append([]int{-2, -1, 0, 1, 2, 3}, wild...)
	c := flat(2)
	for _, c.Marks.Min = range values {
		for _, c.Marks.Low = range values {
			for _, c.Marks.High = range values {
				m := c.Marks
				if m.Min >= 0 && m.Low >= m.Min && m.High >= m.Low {
					accepted(t, c)
				} else {
					refused(t, c, api.ErrBound)
				}
			}
		}
	}
}

func TestNearShape(t *testing.T) { // P30: as many by as many
	for _, near := range [][][]int{nil, {}, {nil, nil}, {{0, 1}}, {{0, 1}, nil}, {nil, {1, 0}}, {{0, 1}, {1}}, {{0}, {1, 0}}, {{0, 1, 1}, {1, 0}}, {{0, 1}, {1, 0, 1}}, {{0, 1}, {1, 0}, {1, 1}}, {{0, 1}, {1, 0}, nil}} {
		refused(t, zone.Config{Pages: []int{1, 1}, Near: near}, api.ErrShape)
	}
	accepted(t, zone.Config{Pages: []int{1, 1}, Near: [][]int{{0, 1}, {1, 0}}})
	for _, near := range [][][]int{nil, {nil}, {{0, 1}}, {{0}, {0}}} {
		refused(t, zone.Config{Pages: []int{1}, Near: near}, api.ErrShape)
	}
}

func TestNearItself(t *testing.T) { // P30: nearer to itself than to each other one, as told by its own list
	for n := 2; n <= 4; n++ {
		for i := range n {
			for j := range n {
				if i == j {
					continue
				}
				c := flat(n)
				c.Near[i][j] = 0
				refused(t, c, api.ErrShape)
				c = flat(n)
				c.Near[i][i] = 1
				refused(t, c, api.ErrShape)
			}
		}
	}
	accepted(t, zone.Config{Pages: []int{1, 1}, Near: [][]int{{7, 8}, {1, 0}}})              // 1 is as far from the other as may be
	refused(t, zone.Config{Pages: []int{1, 1}, Near: [][]int{{7, 7}, {9, 0}}}, api.ErrShape) // 0 is near to 1, but not to itself
}

func TestBoundAheadOfShape(t *testing.T) { // P30, P3: both are so
	for _, near := range [][][]int{{{0, 1001}}, {{0, 1}, {1, 0}, {-1}}, {{0, 0, 0, -1}}, {{0, 0}, {-1, 0}}, {nil, {1, 2, 3, 4, 5, 1001}}} {
		refused(t, zone.Config{Pages: []int{1, 1}, Near: near}, api.ErrBound)
	}
	for _, near := range [][][]int{nil, {{0, 0}, {0, 0}}, {{0}}} {
		refused(t, zone.Config{Pages: []int{1, 0}, Near: near}, api.ErrBound)
		refused(t, zone.Config{Pages: []int{1, 1}, Near: near, Marks: api.Marks{Min: 1}}, api.ErrBound)
		refused(t, zone.Config{Pages: make([]int, 5), Near: near}, api.ErrBound)
	}
}

func TestCheckIsAsTold(t *testing.T) { // P30: every pair of nodes of some distances
	values := []int{-1, 0, 1, 2, 1000, 1001}
	c := flat(2)
	for _, c.Near[0][0] = range values {
		for _, c.Near[0][1] = range values {
			for _, c.Near[1][0] = range values {
				for _, c.Near[1][1] = range values {
					all := slices.Concat(c.Near...)
					switch {
					case slices.Min(all) < 0 || slices.Max(all) > 1000:
						refused(t, c, api.ErrBound)
					case all[0] >= all[1] || all[3] >= all[2]:
						refused(t, c, api.ErrShape)
					default:
						accepted(t, c)
					}
				}
			}
		}
	}
}

func TestBehindTheLength(t *testing.T) { // P3: what lies there is not read
	pages, near, far := []int{8, 8, -1}, [][]int{nil, {1, 0}, {-1}}, []int{0, 1, -1}
	near[0] = far[:2]
	c := zone.Config{Pages: pages[:2], Near: near[:2]}
	accepted(t, c)
	if fmt.Sprint(pages, near, far) != "[8 8 -1] [[0 1] [1 0] [-1]] [0 1 -1]" {
		t.Error(pages, near, far)
	}
}

func TestOrder(t *testing.T) { // P30: by how far from this one, of as far ones by number
	c := zone.Config{Pages: []int{4, 3, 8, 1}, Near: [][]int{{0, 9, 1, 5}, {5, 0, 5, 5}, {2, 1, 0, 1}, {3, 1000, 999, 2}}}
	for node, want := range []string{"[0 2 3 1]", "[1 0 2 3]", "[2 1 3 0]", "[3 0 2 1]"} {
		if l, err := zone.Order(c, node); fmt.Sprint(l) != want || err != nil {
			t.Error(node, l, err)
		}
	}
	if l, err := zone.Order(flat(1), 0); fmt.Sprint(l) != "[0]" || err != nil {
		t.Error(l, err)
	}
}

// order by looking for each distance in turn, not by the sort that is tested.
func order(c zone.Config, node int) []int {
	var l []int
	for d := 0; d <= 1000; d++ {
		for n := range c.Pages {
			if c.Near[node][n] == d {
				l = append(l, n)
			}
		}
	}
	return l
}

func TestOrderIsAsTold(t *testing.T) { // P30: every row of some distances, of each of four nodes
	values := []int{3, 4, 5, 1000}
	c := flat(4)
	for node := range 4 {
		others := slices.DeleteFunc([]int{0, 1, 2, 3}, func(n int) bool { return n == node })
		c.Near[node][node] = 2
		for _, c.Near[node][others[0]] = range values {
			for _, c.Near[node][others[1]] = range values {
				for _, c.Near[node][others[2]] = range values {
					if l, err := zone.Order(c, node); !slices.Equal(l, order(c, node)) || err != nil {
						t.Error(c.Near[node], node, l, err)
					}
				}
			}
		}
	}
}

func TestOrderOfNoNode(t *testing.T) { // P30: ErrBound
	for n := 1; n <= 4; n++ {
		for _, node := range append([]int{-1, n, n + 1}, wild...) {
			if l, err := zone.Order(flat(n), node); len(l) != 0 || err != api.ErrBound {
				t.Error(n, node, l, err)
			}
		}
	}
}

func TestOrderIsNew(t *testing.T) { // P4: nothing handed over is changed, nothing answered is shared
	c := zone.Config{Pages: []int{1, 1, 1}, Near: [][]int{{0, 9, 5}, {1, 0, 1}, {1, 1, 0}}}
	for range 2 {
		l, err := zone.Order(c, 0)
		if fmt.Sprint(l) != "[0 2 1]" || err != nil {
			t.Fatal(l, err)
		}
		clear(l)
	}
	if fmt.Sprint(c) != "{[1 1 1] [[0 9 5] [1 0 1] [1 1 0]] {0 0 0}}" {
		t.Error(c)
	}
}
