package lock_test

import (
	"slices"
	"testing"

	"braid/api"
)

// The second model knows of a lock only who asked, in the order of asking, and neither freed it nor left.

// held is how many of those that asked have the lock: one that writes only alone, and those that read as far as nobody who asked before them writes.
func held(asked []api.Wait) int {
	if len(asked) > 0 && asked[0].Write {
		return 1
	}
	n := slices.IndexFunc(asked, func(w api.Wait) bool { return w.Write })
	if n < 0 {
		return len(asked)
	}
	return n
}

// lockOf is the lock for which tasks asked.
func lockOf(asked []api.Wait) api.Lock {
	n := held(asked)
	l := api.Lock{Writer: nobody, Queue: slices.Clone(asked[n:])}
	for _, w := range asked[:n] {
		if w.Write {
			l.Writer = w.Task
		} else {
			l.Readers = append(l.Readers, w.Task)
		}
	}
	slices.Sort(l.Readers)
	return l
}

// askedFor are those that asked for a lock; readers in increasing order.
func askedFor(l api.Lock) []api.Wait {
	asked := queueOf(l.Readers, false)
	if l.Writer != nobody {
		asked = append([]api.Wait{{Task: l.Writer, Write: true}}, asked...)
	}
	return append(asked, l.Queue...)
}

// isValid reports whether a lock is what becomes of different tasks that asked.
func isValid(l api.Lock) bool {
	asked := askedFor(l)
	for i, w := range asked {
		if w.Task < 0 || w.Task >= maxTasks || indexOf(asked, w.Task) != i {
			return false
		}
	}
	return sameLock(lockOf(asked), l)
}

func indexOf(asked []api.Wait, task int) int {
	return slices.IndexFunc(asked, func(w api.Wait) bool { return w.Task == task })
}

// gone are those that asked, without one task, and the tasks that have the lock only then.
func gone(asked []api.Wait, task int) (left []api.Wait, to []int) {
	left = slices.DeleteFunc(slices.Clone(asked), func(w api.Wait) bool { return w.Task == task })
	for _, w := range left[:held(left)] {
		if indexOf(asked, w.Task) >= held(asked) {
			to = append(to, w.Task)
		}
	}
	return left, to
}

// allAsked are all lists of different tasks that asked, each one to read or to write.
func allAsked(tasks []int) [][]api.Wait {
	all := [][]api.Wait{nil}
	for from := 0; from < len(all); from++ {
		for _, i := range tasks {
			if indexOf(all[from], i) < 0 {
				for _, write := range []bool{false, true} {
					all = append(all, append(slices.Clone(all[from]), api.Wait{Task: i, Write: write}))
				}
			}
		}
	}
	return all
}

// checkModel fails unless all functions agree with the model, for each of some tasks.
func checkModel(t *testing.T, asked []api.Wait, tasks []int) {
	t.Helper()
	l := lockOf(asked)
	checkLock(t, "a model", l, api.OK)
	for _, i := range tasks {
		at := indexOf(asked, i)
		left, to := gone(asked, i)
		switch {
		case at < 0:
			checkHolds(t, l, i, 0, api.OK)
			checkFree(t, l, i, api.Lock{}, nil, api.ErrState)
			checkLeave(t, l, i, api.Lock{}, nil, api.ErrState)
			for _, write := range []bool{false, true} {
				more := append(slices.Clone(asked), api.Wait{Task: i, Write: write})
				checkAsk(t, l, i, write, lockOf(more), held(more) == len(more), api.OK)
			}
			continue
		case at < held(asked):
			want := 1
			if asked[at].Write {
				want = 2
			}
			checkHolds(t, l, i, want, api.OK)
			checkFree(t, l, i, lockOf(left), to, api.OK)
			checkLeave(t, l, i, api.Lock{}, nil, api.ErrState)
		default:
			checkHolds(t, l, i, -1, api.OK)
			checkFree(t, l, i, api.Lock{}, nil, api.ErrState)
			checkLeave(t, l, i, lockOf(left), to, api.OK)
		}
		checkAsk(t, l, i, false, api.Lock{}, false, api.ErrTwice)
		checkAsk(t, l, i, true, api.Lock{}, false, api.ErrTwice)
	}
}

// P14.1 to P14.3: all lists of up to five tasks that asked, and one task more.
func TestSmall(t *testing.T) {
	all := allAsked([]int{0, 3, 4, 8, 11})
	if len(all) != 6331 {
		t.Errorf("there are %d lists", len(all))
	}
	for _, asked := range all {
		checkModel(t, asked, []int{0, 3, 4, 5, 8, 11})
	}
}

// P14.1 to P14.3: lists of up to all tasks that asked, drawn.
func TestDrawn(t *testing.T) {
	draw := newDraw()
	for range 3000 {
		checkModel(t, drawnAsks(draw), numbered(0, maxTasks))
	}
}

// P14.1: a lock is valid if and only if it is what becomes of tasks that asked, for all small lists, with numbers around the ends of the tasks.
func TestAllLocks(t *testing.T) {
	readers := allLists(3, []int{-1, 0, 5, 11, 12})
	var waits []api.Wait
	for _, i := range []int{-1, 0, 5, 11, 12} {
		waits = append(waits, api.Wait{Task: i}, api.Wait{Task: i, Write: true})
	}
	queues := allLists(2, waits)
	valid := 0
	for _, writer := range []int{-2, -1, 0, 5, 11, 12} {
		for _, r := range readers {
			for _, q := range queues {
				l := api.Lock{Writer: writer, Readers: r, Queue: q}
				want := api.ErrBad
				if isValid(l) {
					want = api.OK
					valid++
				}
				checkLock(t, "one of all", l, want)
			}
		}
	}
	nobodyWaits := 8             // any of three tasks read
	oneReads := 3 * (2 + 2*2)    // one of the others waits to write, and the last one perhaps behind it
	twoRead := 3                 // the third one waits to write
	oneWrites := 3 * (1 + 4 + 8) // none, one or both of the others wait
	if want := nobodyWaits + oneReads + twoRead + oneWrites; valid != want {
		t.Errorf("%d are valid, want %d", valid, want)
	}
}

// allLists are all lists of up to n of some elements.
func allLists[T any](n int, some []T) [][]T {
	all := [][]T{nil}
	for from := 0; from < len(all) && len(all[from]) < n; from++ {
		for _, x := range some {
			all = append(all, append(slices.Clone(all[from]), x))
		}
	}
	return all
}
