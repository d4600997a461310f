package side

import (
	"bytes"
	"errors"
	"runtime"
	"slices"
	"strconv"
	"sync"
	"sync/atomic"
	"testing"
	"testing/synctest"
	"time"

	"twinrampart/api"
)

// P120: as many work at the same time as were asked for: each waits here for the others. (Were they fewer, all in the bubble would wait for ever, which it tells.)
func TestAsManyAsAsked(t *testing.T) {
	for workers := 1; workers <= api.Workers; workers++ {
		synctest.Test(t, func(t *testing.T) {
			var begun sync.WaitGroup
			begun.Add(workers)
			got, at, err := each(workers, workers, func(at int) (string, error) {
				begun.Done()
				begun.Wait()
				return strconv.Itoa(at), nil
			})
			if err != nil || at != 0 || len(got) != workers {
				t.Error(got, at, err)
			}
			for i, s := range got {
				if s != strconv.Itoa(i) {
					t.Error(i, s)
				}
			}
		})
	}
}

// P120: never more of them than were asked for; each number once.
func TestNoMoreThanAsked(t *testing.T) {
	for workers := 1; workers <= api.Workers; workers++ {
		synctest.Test(t, func(t *testing.T) {
			var now, top atomic.Int64
			times := make([]atomic.Int64, most)
			_, _, err := each(most, workers, func(at int) (int, error) {
				times[at].Add(1)
				n := now.Add(1)
				for old := top.Load(); n > old && !top.CompareAndSwap(old, n); old = top.Load() {
				}
				time.Sleep(time.Duration(at%7) * time.Second) // the bubble's time
				now.Add(-1)
				return at, nil
			})
			if err != nil || top.Load() != int64(workers) || now.Load() != 0 {
				t.Error(workers, top.Load(), now.Load(), err)
			}
			for at := range times {
				if times[at].Load() != 1 {
					t.Error(at, times[at].Load())
				}
			}
		})
	}
}

// P121: answers stand by their numbers, and the error is the first number's, though the last one is done first.
func TestOrderIsOfNumbers(t *testing.T) {
	slow := func(at int) { time.Sleep(time.Duration(most-at) * time.Hour) }
	first, later := errors.New("first"), errors.New("later")
	for workers := 1; workers <= api.Workers; workers++ {
		synctest.Test(t, func(t *testing.T) {
			got, at, err := each(most, workers, func(at int) (int, error) {
				slow(at)
				return at * at, nil
			})
			if err != nil || at != 0 || len(got) != most || !slices.IsSorted(got) || got[most-1] != (most-1)*(most-1) {
				t.Error(workers, got, at, err)
			}
			got, at, err = each(most, workers, func(at int) (int, error) {
				slow(at)
				switch {
				case at == 40:
					return 1, first
				case at > 40:
					return 1, later
				}
				return 1, nil
			})
			if got != nil || at != 40 || err != first {
				t.Error(workers, got, at, err)
			}
		})
	}
}

// P1: without numbers it ends.
func TestNoNumbers(t *testing.T) {
	synctest.Test(t, func(t *testing.T) {
		got, at, err := each(0, 3, func(int) (int, error) { return 0, errors.New("of none") })
		if len(got) != 0 || at != 0 || err != nil {
			t.Error(got, at, err)
		}
	})
}

// P2: when it answers, no worker serves any more.
func TestWorkersAreJoined(t *testing.T) {
	stacks := make([]byte, 1<<20)
	for range 200 {
		each(api.Workers, api.Workers, func(at int) (int, error) { return at, nil })
		if l := stacks[:runtime.Stack(stacks, true)]; bytes.Contains(l, []byte("side.serve[")) {
			t.Fatalf("one serves: %s", l)
		}
	}
}
