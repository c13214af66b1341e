package side

import (
	"errors"
	"slices"
	"sync/atomic"
	"testing"
	"testing/synctest"
	"time"

	"slabyard/api"
)

// In a bubble of synctest a sleep costs no time, and the bubble's clock goes on only when everybody in it waits; who is
// left behind when the test ends, and waits still, fails it.

func TestWorkersAtOnce(t *testing.T) { // P110: so many work side by side, no fewer and no more, and none is left behind
	for workers := 1; workers <= api.Workers; workers++ {
		for _, n := range []int{0, 1, workers - 1, workers, workers + 1, 2 * workers, most} {
			synctest.Test(t, func(t *testing.T) {
				start := time.Now()
				l, err := each(n, workers, func(int) (int, error) {
					time.Sleep(time.Second)
					return 0, nil
				})
				rounds := (n + workers - 1) / workers
				if took := time.Since(start); took != time.Duration(rounds)*time.Second {
					t.Errorf("%d numbers, %d workers: %v", n, workers, took)
				}
				if len(l) != n || err != nil {
					t.Error(n, workers, l, err)
				}
			})
		}
	}
}

// delays by number: who is the first one is the last one, or the other way round, or neither.
func delays() []func(i int) int {
	return []func(i int) int{
		func(i int) int { return most - i },
		func(i int) int { return i },
		func(i int) int { return i * 37 % most },
		func(int) int { return 1 },
	}
}

func TestEachByNumber(t *testing.T) { // P111: whoever ends first, what was made stands by number, and each number was worked on once
	for workers := 1; workers <= api.Workers; workers++ {
		for _, delay := range delays() {
			synctest.Test(t, func(t *testing.T) {
				var times [most]atomic.Int32
				l, err := each(most, workers, func(i int) (int, error) {
					times[i].Add(1)
					time.Sleep(time.Duration(delay(i)) * time.Second)
					return i * i, nil
				})
				if len(l) != most || err != nil {
					t.Fatal(workers, l, err)
				}
				for i, got := range l {
					if n := times[i].Load(); got != i*i || n != 1 {
						t.Error(workers, i, got, n)
					}
				}
			})
		}
	}
}

// wrong is the error of a number.
type wrong int

func (w wrong) Error() string { return "wrong" }

func TestEachFirstError(t *testing.T) { // P110: the first error by number, not by time; nothing beside it
	for workers := 1; workers <= api.Workers; workers++ {
		for _, bad := range [][]int{{0}, {most - 1}, {7, 8}, {3, 50, 99}, {0, 1, 2, 3, 4, 5, 6, 7, 8, 9}} {
			for _, delay := range delays() {
				synctest.Test(t, func(t *testing.T) {
					l, err := each(most, workers, func(i int) (int, error) {
						time.Sleep(time.Duration(delay(i)) * time.Second)
						if slices.Contains(bad, i) {
							return i, wrong(i)
						}
						return i, nil
					})
					if !errors.Is(err, wrong(bad[0])) || len(l) != 0 {
						t.Error(workers, bad, l, err)
					}
				})
			}
		}
	}
}

func TestEachOfAnyAnswer(t *testing.T) { // P110: what is made may be of any type
	texts, err := each(3, 2, func(i int) (string, error) { return "abc"[i:], nil })
	if !slices.Equal(texts, []string{"abc", "bc", "c"}) || err != nil {
		t.Error(texts, err)
	}
	blocks, err := each(2, 3, func(i int) (api.Block, error) { return api.Block{At: i}, nil })
	if !slices.Equal(blocks, []api.Block{{}, {At: 1}}) || err != nil {
		t.Error(blocks, err)
	}
}
