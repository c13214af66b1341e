package side_test

import (
	"errors"
	"math"
	"slices"
	"sync"
	"testing"
	"testing/synctest"

	"slabyard/api"
	"slabyard/frames"
	"slabyard/plain"
	"slabyard/play"
	"slabyard/side"
	"slabyard/zone"
)

// one node of so many pages, without marks.
func one(pages int) zone.Config {
	return zone.Config{Pages: []int{pages}, Near: [][]int{{0}}}
}

// configs of plays that go well.
func configs() []zone.Config {
	return []zone.Config{
		one(1),
		one(256),
		{Pages: []int{4, 8}, Near: [][]int{{0, 1}, {1, 0}}, Marks: api.Marks{Min: 1, Low: 2, High: 3}},
		{Pages: []int{2, 3, 5, 7}, Near: [][]int{{0, 3, 2, 1}, {1, 0, 1, 1}, {9, 8, 7, 1000}, {5, 5, 5, 4}}, Marks: api.Marks{Min: 2, Low: 4, High: 9}},
	}
}

// walk is a script of n numbers, some of them below 0.
func walk(seed, n int) []int {
	x := uint32(seed)
	var l []int
	for range n {
		x = x*1664525 + 1013904223
		l = append(l, int(x>>16)%(16*50)-8)
	}
	return l
}

// walks are n scripts, each of another length.
func walks(n int) [][]int {
	l := [][]int{}
	for seed := range n {
		l = append(l, walk(seed, seed*13%71))
	}
	return l
}

// alone is what each script answers, one behind the other.
func alone(t *testing.T, c zone.Config, scripts [][]int) [][]int {
	t.Helper()
	var l [][]int
	for _, script := range scripts {
		p, err := play.New(c)
		if err != nil {
			t.Fatal(c, err)
		}
		l = append(l, p.Run(script))
	}
	return l
}

// same tells whether two lists have the same rows, where nil is as good as empty.
func same[T comparable](a, b [][]T) bool {
	return slices.EqualFunc(a, b, slices.Equal[[]T])
}

// copied is the same list in memory of its own.
func copied[T any](l [][]T) [][]T {
	var c [][]T
	for _, row := range l {
		c = append(c, slices.Clone(row))
	}
	return c
}

// everyCrew lets a call be tried with each number of workers that may be.
func everyCrew(try func(workers int)) {
	for workers := 1; workers <= api.Workers; workers++ {
		try(workers)
	}
}

func TestPlays(t *testing.T) { // P110: of each script its answers, in the order of the scripts
	scripts := [][]int{
		{16, 7, 7},                   // a buffer is made and freed; there is none any more
		nil,                          // nothing
		{-1, math.MinInt, 7, 9, 12},  // nothing; no buffer, no loose object
		{},                           // nothing
		{16*13 + 0, 1, 16*2 + 3, 4},  // made, cloned, split, joined with itself
		{8, 8, 16 + 9, 9, 9, 10, 11}, // two objects are taken and given back
		{8, 8, 8, 8, 8, 8, 8, 8, 8},  // one a page: three beside the one of the reserve
	}
	want := [][]int{{0, 0, 4}, {}, {-1, -1, 4, 4, 0}, {}, {0, 0, 0, 6}, {0, 0, 0, 0, 4, 0, 0}, {0, 0, 0, 5, 5, 5, 5, 5, 5}}
	everyCrew(func(workers int) {
		l, err := side.Plays(one(4), scripts, workers)
		if !same(l, want) || err != nil {
			t.Error(workers, l, err)
		}
	})
}

func TestPlaysAsAlone(t *testing.T) { // P110, P111: however many scripts and workers, it is as one behind the other
	for _, c := range configs() {
		for _, n := range []int{0, 1, 2, 15, 16, 17, 99, 100} {
			scripts := walks(n)
			want := alone(t, c, scripts)
			everyCrew(func(workers int) {
				l, err := side.Plays(c, scripts, workers)
				if !same(l, want) || err != nil {
					t.Error(c, n, workers, err)
				}
			})
		}
	}
}

func TestPlaysEachOfItsOwn(t *testing.T) { // P110: of each script a new play: what one takes, another one has still
	taking := slices.Repeat([]int{8}, 10)
	scripts := slices.Repeat([][]int{taking}, 100)
	want := alone(t, one(4), [][]int{taking})[0]
	everyCrew(func(workers int) {
		l, err := side.Plays(one(4), scripts, workers)
		if len(l) != 100 || err != nil {
			t.Fatal(workers, len(l), err)
		}
		for i := range l {
			if !slices.Equal(l[i], want) {
				t.Error(workers, i, l[i])
			}
		}
	})
}

func TestPlaysOfManySteps(t *testing.T) { // P110: Run's answers, which are at most MaxSteps
	scripts := [][]int{walk(1, api.MaxSteps), walk(2, api.MaxSteps+1), walk(3, 3*api.MaxSteps)}
	want := alone(t, one(16), scripts)
	for _, workers := range []int{1, 2, 3, 16} {
		l, err := side.Plays(one(16), scripts, workers)
		if !same(l, want) || err != nil {
			t.Fatal(workers, err)
		}
		for i := range l {
			if len(l[i]) != api.MaxSteps {
				t.Error(workers, i, len(l[i]))
			}
		}
	}
}

// crewErrors are numbers of workers that are none, and what is told then.
func crewErrors() []int { return []int{0, 17, -1, 18, math.MinInt, math.MaxInt} }

func TestPlaysErrors(t *testing.T) { // P110: workers, then scripts, then the config; nothing beside
	unbound := zone.Config{}
	shapeless := zone.Config{Pages: []int{4}}
	for _, workers := range crewErrors() {
		for _, c := range []zone.Config{one(4), unbound} {
			for _, n := range []int{0, 1, 100, 101} {
				refusePlays(t, c, n, workers, api.ErrShape)
			}
		}
	}
	everyCrew(func(workers int) {
		for _, n := range []int{101, 102, 5000} {
			refusePlays(t, one(4), n, workers, api.ErrBound)
			refusePlays(t, shapeless, n, workers, api.ErrBound)
		}
		for _, n := range []int{0, 1, 2, 100} {
			refusePlays(t, shapeless, n, workers, api.ErrShape)
			refusePlays(t, unbound, n, workers, api.ErrBound)
			refusePlays(t, one(257), n, workers, api.ErrBound)
			refusePlays(t, zone.Config{Pages: []int{4}, Near: [][]int{{0}}, Marks: api.Marks{Min: 2, Low: 1, High: 2}}, n, workers, api.ErrBound)
		}
	})
	if _, err := side.Plays(unbound, nil, 1); err != api.ErrBound {
		t.Error(err)
	}
}

func refusePlays(t *testing.T, c zone.Config, n, workers int, want error) {
	t.Helper()
	if l, err := side.Plays(c, make([][]int, n), workers); len(l) != 0 || err != want {
		t.Error(c, n, workers, l, err)
	}
}

func TestPlaysOnlyRead(t *testing.T) { // P4: what is handed over stays, also behind a list's length
	c := configs()[2]
	pages, far := slices.Clone(c.Pages), copied(c.Near)
	whole := walks(20)
	for i := range whole {
		whole[i] = append(whole[i], 7, 7, 7)
	}
	was := copied(whole)
	scripts := slices.Clone(whole[:10])
	for i := range scripts {
		scripts[i] = scripts[i][:len(scripts[i])-3]
	}
	want := alone(t, c, scripts)
	everyCrew(func(workers int) {
		l, err := side.Plays(c, scripts, workers)
		if !same(l, want) || err != nil {
			t.Error(workers, err)
		}
		if l, err := side.Plays(c, whole[:10], workers); len(l) != 10 || err != nil {
			t.Error(workers, len(l), err)
		}
	})
	if !same(whole, was) || !slices.Equal(c.Pages, pages) || !same(c.Near, far) {
		t.Error("changed")
	}
}

func TestPlaysAnswerOfItsOwn(t *testing.T) { // P4: nobody else sees what is written into an answer
	scripts := slices.Repeat([][]int{{16, 7, 7}}, 20)
	first, err := side.Plays(one(4), scripts, 4)
	if err != nil {
		t.Fatal(err)
	}
	second, err := side.Plays(one(4), scripts, 4)
	if err != nil {
		t.Fatal(err)
	}
	for i := range first {
		copy(first[i], []int{9, 9, 9})
		_ = append(first[i], 9, 9)
		for _, row := range slices.Concat(first[i+1:], second, scripts) {
			if slices.Contains(row, 9) {
				t.Fatal(i, row)
			}
		}
	}
}

func TestCovers(t *testing.T) { // P110: of each its blocks, in order
	l := [][2]int{{0, 6}, {3, 0}, {5, 4}, {0, 256}, {256, 0}, {0, 6}, {255, 1}}
	want := [][]api.Block{
		{{At: 0, Order: 2}, {At: 4, Order: 1}},
		nil,
		{{At: 5}, {At: 6, Order: 1}, {At: 8}},
		{{At: 0, Order: 6}, {At: 64, Order: 6}, {At: 128, Order: 6}, {At: 192, Order: 6}},
		nil,
		{{At: 0, Order: 2}, {At: 4, Order: 1}},
		{{At: 255}},
	}
	everyCrew(func(workers int) {
		got, err := side.Covers(l, workers)
		if !same(got, want) || err != nil {
			t.Error(workers, got, err)
		}
		got, err = side.Covers(nil, workers)
		if len(got) != 0 || err != nil {
			t.Error(workers, got, err)
		}
	})
}

func TestCoversAsAlone(t *testing.T) { // P110, P111: every pages there are, and 100 at a time
	var l [][2]int
	for at := range api.MaxPages + 1 {
		for n := range api.MaxPages - at + 1 {
			l = append(l, [2]int{at, n})
		}
	}
	crew := 0
	for some := range slices.Chunk(l, 100) {
		var want [][]api.Block
		for _, x := range some {
			blocks, err := frames.Cover(x[0], x[1])
			if err != nil {
				t.Fatal(x, err)
			}
			want = append(want, blocks)
		}
		workers := crew%api.Workers + 1
		crew++
		if got, err := side.Covers(some, workers); !same(got, want) || err != nil {
			t.Error(some[0], workers, err)
		}
	}
}

func TestCoversErrors(t *testing.T) { // P110: workers, then how many; bare, and nothing beside
	wrong := [2]int{-1, 0}
	for _, workers := range crewErrors() {
		for _, n := range []int{0, 1, 100, 101} {
			refuseCovers(t, make([][2]int, n), workers, api.ErrShape)
			refuseCovers(t, slices.Repeat([][2]int{wrong}, n), workers, api.ErrShape)
		}
	}
	everyCrew(func(workers int) {
		for _, n := range []int{101, 102, 5000} {
			refuseCovers(t, make([][2]int, n), workers, api.ErrBound)
			refuseCovers(t, slices.Repeat([][2]int{wrong}, n), workers, api.ErrBound)
		}
		if l, err := side.Covers(make([][2]int, 100), workers); len(l) != 100 || err != nil {
			t.Error(workers, len(l), err)
		}
	})
}

func refuseCovers(t *testing.T, l [][2]int, workers int, want error) {
	t.Helper()
	if got, err := side.Covers(l, workers); len(got) != 0 || err != want {
		t.Error(len(l), workers, got, err)
	}
}

func TestCoversFaults(t *testing.T) { // P110, P111: the first that has an error tells it, and its place
	wrong := [][2]int{{-1, 0}, {257, 0}, {0, -1}, {0, 257}, {200, 57}, {256, 1}, {math.MinInt, math.MaxInt}, {math.MaxInt, math.MaxInt}, {1, math.MaxInt}, {0, math.MinInt}}
	for _, places := range [][]int{{0}, {99}, {42}, {0, 99}, {16, 17, 18}, {5, 50, 98}, {98, 99}} {
		for i := range wrong {
			l := slices.Repeat([][2]int{{3, 9}}, 100)
			for k, at := range places {
				l[at] = wrong[(i+k)%len(wrong)]
			}
			everyCrew(func(workers int) { faulty(t, l, workers, places[0]) })
		}
	}
	faulty(t, wrong, 3, 0)
	faulty(t, [][2]int{{0, 6}, {-1, 0}}, 2, 1)
}

// faulty holds where the first error is told to be.
func faulty(t *testing.T, l [][2]int, workers, place int) {
	t.Helper()
	got, err := side.Covers(l, workers)
	f, ok := errors.AsType[*api.Fault](err)
	if len(got) != 0 || !ok || f.At != place || f.Err != api.ErrBound {
		t.Fatal(l, workers, place, got, err)
	}
	if code, at := plain.Code(err); code != 2 || at != place || !errors.Is(err, api.ErrBound) {
		t.Fatal(workers, code, at)
	}
}

func TestCoversOnlyRead(t *testing.T) { // P3, P4: what is handed over stays; what lies behind its length is not looked at
	whole := [][2]int{{0, 6}, {1, 1}, {-1, 0}, {2, 5}}
	was := slices.Clone(whole)
	everyCrew(func(workers int) {
		first, err := side.Covers(whole[:2], workers)
		if len(first) != 2 || err != nil {
			t.Fatal(workers, first, err)
		}
		first[0][0].At = 9
		_ = append(first[0], api.Block{At: 9})
		second, err := side.Covers(whole[:2], workers)
		if !same(second, [][]api.Block{{{At: 0, Order: 2}, {At: 4, Order: 1}}, {{At: 1}}}) || err != nil || first[1][0].At != 1 {
			t.Error(workers, first, second, err)
		}
		faulty(t, whole, workers, 2)
	})
	if !slices.Equal(whole, was) {
		t.Error(whole)
	}
}

func TestNobodyIsLeft(t *testing.T) { // P1: all whom a call sent off are at their end with it, also where it tells an error: else the bubble fails
	everyCrew(func(workers int) {
		for _, n := range []int{0, 1, 5, 100, 101} {
			synctest.Test(t, func(*testing.T) { _, _ = side.Plays(one(4), walks(n), workers) })
			synctest.Test(t, func(*testing.T) { _, _ = side.Plays(zone.Config{}, walks(n), workers) })
			synctest.Test(t, func(*testing.T) { _, _ = side.Covers(make([][2]int, n), workers) })
			synctest.Test(t, func(*testing.T) { _, _ = side.Covers(slices.Repeat([][2]int{{-1, 0}}, n), workers) })
		}
	})
}

func TestCallsSideBySide(t *testing.T) { // P2: calls that go on at once answer as one alone, also of the same lists
	c := configs()[3]
	scripts := walks(30)
	want := alone(t, c, scripts)
	l := [][2]int{{0, 6}, {5, 4}, {1, 0}}
	blocks, err := side.Covers(l, 1)
	if err != nil {
		t.Fatal(err)
	}
	var callers sync.WaitGroup
	everyCrew(func(workers int) {
		callers.Go(func() {
			if got, err := side.Plays(c, scripts, workers); !same(got, want) || err != nil {
				t.Error(workers, err)
			}
			if got, err := side.Covers(l, workers); !same(got, blocks) || err != nil {
				t.Error(workers, got, err)
			}
		})
	})
	callers.Wait()
}
