package lock_test

import (
	"math/rand"
	"slices"
	"testing"

	"braid/api"
	"braid/lock"
)

// checkAlone fails if a task writes together with anybody else.
func checkAlone(t *testing.T, l api.Lock) {
	t.Helper()
	writers, readers := 0, 0
	for i := range maxTasks {
		switch mustHold(t, l, i) {
		case 2:
			writers++
		case 1:
			readers++
		}
	}
	if writers > 1 || writers == 1 && readers > 0 {
		t.Errorf("%d write and %d read with %v", writers, readers, l)
	}
}

// walk lets tasks ask, free and leave by chance; it calls look with each lock and with the tasks to which it was granted then.
func walk(t *testing.T, draw *rand.Rand, steps int, look func(l api.Lock, to []int)) {
	t.Helper()
	l := lock.New()
	for range steps {
		i := draw.Intn(maxTasks)
		var to []int
		switch mustHold(t, l, i) {
		case 0:
			next, got := mustAsk(t, l, i, draw.Intn(3) == 0)
			l = next
			if got {
				to = []int{i}
			}
		case -1:
			if draw.Intn(3) == 0 {
				l, to = mustLeave(t, l, i)
			}
		default:
			l, to = mustFree(t, l, i)
		}
		look(l, to)
	}
}

// P14.4: there is never a writer together with anybody else, and what a step leaves is valid.
func TestNeverTogether(t *testing.T) {
	draw := newDraw()
	written, readBySeveral, waitedFor := 0, 0, 0
	for range 20 {
		walk(t, draw, 400, func(l api.Lock, to []int) {
			checkLock(t, "in a walk", l, api.OK)
			checkAlone(t, l)
			if l.Writer != nobody {
				written++
			}
			if len(l.Readers) > 1 {
				readBySeveral++
			}
			if len(l.Queue) > 2 {
				waitedFor++
			}
		})
	}
	if written < 500 || readBySeveral < 500 || waitedFor < 500 {
		t.Errorf("%d were written, %d read by several, %d waited for", written, readBySeveral, waitedFor)
	}
}

// P14.4: the lock is granted in the order of asking, and to those only that wait for it no more; nobody else gets or loses it.
func TestOrderOfAsking(t *testing.T) {
	draw := newDraw()
	several := 0
	for range 20 {
		before := lock.New()
		walk(t, draw, 400, func(l api.Lock, to []int) {
			for _, i := range to {
				if mustHold(t, l, i) < 1 || mustHold(t, before, i) > 0 {
					t.Errorf("%d was granted %v behind %v", i, l, before)
				}
			}
			// Those that waited and did not leave are granted from the first one on, and nobody else is ahead of the others.
			waited := waitFor(before)
			left := slices.DeleteFunc(slices.Clone(waited), func(i int) bool { return mustHold(t, l, i) == 0 })
			now := append(slices.Clone(to), waitFor(l)...)
			if !slices.Equal(left, now[:min(len(left), len(now))]) {
				t.Errorf("%v waited, and %v were granted %v", waited, to, l)
			}
			if len(to) > 1 {
				several++
			}
			before = l
		})
	}
	if several < 50 {
		t.Errorf("only %d times several were granted the lock at once", several)
	}
}

// gotAfter lets those that have a lock free it, and those that wait ahead of a task leave or get the lock and free it, one after the other in any order; it reports whether the task has the lock then, and before only together with others that read.
func gotAfter(t *testing.T, draw *rand.Rand, l api.Lock, task int) bool {
	t.Helper()
	waited := waitFor(l)
	ahead := append(slices.Clone(haveIt(l)), waited[:slices.Index(waited, task)]...)
	for len(ahead) > 0 {
		at := draw.Intn(len(ahead))
		i := ahead[at]
		if mustHold(t, l, i) == -1 {
			if draw.Intn(2) == 0 {
				continue // It goes on waiting.
			}
			l, _ = mustLeave(t, l, i)
		} else {
			l, _ = mustFree(t, l, i)
		}
		ahead = slices.Delete(ahead, at, at+1)
		if len(ahead) == 0 {
			break
		}
		if mustHold(t, l, task) > 0 && !allRead(t, l, append(ahead, task)) {
			return false
		}
	}
	return mustHold(t, l, task) > 0
}

// allRead reports whether all of some tasks read.
func allRead(t *testing.T, l api.Lock, tasks []int) bool {
	t.Helper()
	return !slices.ContainsFunc(tasks, func(i int) bool { return mustHold(t, l, i) != 1 })
}

// P14.4: a task that waits has the lock, once all that have it and all that wait before it have freed it or left.
func TestNobodyIsLost(t *testing.T) {
	draw := newDraw()
	for _, l := range shapes() {
		for _, task := range waitFor(l) {
			for range 5 {
				if !gotAfter(t, draw, l, task) {
					t.Errorf("%d waits for %v, and is lost, or has it too early", task, l)
				}
			}
		}
	}
}

// P14.4: whoever waits gets the lock also where others go on to ask behind it.
func TestNobodyIsPassed(t *testing.T) {
	l := api.Lock{Writer: nobody, Readers: []int{0}, Queue: waiting("w5")}
	for _, i := range []int{1, 2, 11} {
		next, got := mustAsk(t, l, i, i == 2)
		if got {
			t.Errorf("%d passed the one that waits for %v", i, l)
		}
		l = next
	}
	checkFree(t, l, 0, written(5, "r1 w2 r11"), []int{5}, api.OK)
}

// P14.4: asking to write and leaving at once leaves the lock as it was, unless it was granted.
func TestAskAndLeave(t *testing.T) {
	for _, l := range shapes() {
		for _, i := range absent(l) {
			next, got := mustAsk(t, l, i, true)
			if got != (len(haveIt(l)) == 0) {
				t.Errorf("%d was granted %v: %v", i, l, got)
			}
			if got {
				checkLeave(t, next, i, api.Lock{}, nil, api.ErrState)
				checkFree(t, next, i, l, nil, api.OK)
				continue
			}
			checkLeave(t, next, i, l, nil, api.OK)
		}
	}
}

// Once all that have the lock free it, and all that are granted it free it too, nobody has it, and each one that waited had it once, in the order of asking.
func TestAllFree(t *testing.T) {
	for _, l := range shapes() {
		waited := waitFor(l)
		var granted []int
		for len(haveIt(l)) > 0 {
			next, to := mustFree(t, l, haveIt(l)[0])
			granted = append(granted, to...)
			l = next
		}
		if !sameLock(l, free()) || !slices.Equal(granted, waited) {
			t.Errorf("%v waited, %v were granted the lock, and %v is left", waited, granted, l)
		}
	}
}
