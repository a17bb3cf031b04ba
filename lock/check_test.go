package lock_test

import (
	"math"
	"slices"
	"testing"

	"braid/api"
	"braid/lock"
)

// P14.1: New returns the lock that nobody has or waits for.
func TestNew(t *testing.T) {
	l := lock.New()
	if !sameLock(l, free()) {
		t.Errorf("New() = %v", l)
	}
	checkLock(t, "a new one", l, api.OK)
	for i := range maxTasks {
		checkHolds(t, l, i, 0, api.OK)
	}
}

// P14.1: valid locks, with each task at each place that it may have.
func TestValid(t *testing.T) {
	for _, l := range shapes() {
		checkLock(t, "a shape", l, api.OK)
	}
	for i := range maxTasks {
		other := (i + 1) % maxTasks
		checkLock(t, "one writes", written(i, ""), api.OK)
		checkLock(t, "one reads", read([]int{i}, ""), api.OK)
		for _, write := range []bool{false, true} {
			checkLock(t, "one waits", api.Lock{Writer: other, Queue: queueOf([]int{i}, write)}, api.OK)
			checkLock(t, "one waits as the second one", api.Lock{Writer: other, Queue: append(queueOf([]int{(i + 2) % maxTasks}, true), api.Wait{Task: i, Write: write})}, api.OK)
		}
		checkLock(t, "one waits for a reader", api.Lock{Writer: nobody, Readers: []int{other}, Queue: queueOf([]int{i}, true)}, api.OK)
		checkLock(t, "readers up to one", read(numbered(0, i+1), ""), api.OK)
		checkLock(t, "readers from one on", read(numbered(i, maxTasks-i), ""), api.OK)
	}
	// Nil and empty lists are the same.
	checkLock(t, "empty lists", api.Lock{Writer: nobody, Readers: []int{}, Queue: []api.Wait{}}, api.OK)
	checkLock(t, "empty lists", api.Lock{Writer: 4, Readers: []int{}, Queue: []api.Wait{}}, api.OK)
}

// named is a lock with what is to be known of it.
type named struct {
	name string
	lock api.Lock
}

// notValid are locks that are not valid.
func notValid() []named {
	l := append(notTasks(), twice()...)
	l = append(l, tooEarly()...)
	for _, readers := range [][]int{{0, 5, 2}, {5, 2}, {1, 0}, {11, 0}, {0, 1, 2, 4, 3}, {2, 1, 3, 4}, {11, 10, 9}} {
		l = append(l, named{"readers that do not increase", read(readers, "")})
	}
	for _, writer := range []int{0, 1, 7, 11} {
		for _, readers := range [][]int{{2}, {3, 6}, {10}} {
			l = append(l, named{"readers while a task writes", api.Lock{Writer: writer, Readers: readers}})
			l = append(l, named{"readers while a task writes", api.Lock{Writer: writer, Readers: readers, Queue: waiting("w5 r9")}})
		}
	}
	for _, n := range []int{13, 256, 257, 1 << 16} {
		l = append(l,
			named{"many readers", read(numbered(0, n), "")},
			named{"many readers", read(make([]int, n), "")},
			named{"many that wait", api.Lock{Writer: 0, Queue: queueOf(numbered(1, n), true)}},
			named{"many that wait", api.Lock{Writer: 0, Queue: make([]api.Wait, n)}})
	}
	return l
}

// notTasks are locks with a number that is no task, at each place.
func notTasks() []named {
	var l []named
	for _, i := range strange() {
		if i != nobody {
			l = append(l,
				named{"a writer that is no task", written(i, "")},
				named{"a writer that is no task", written(i, "r1 w2")},
				named{"a writer that is no task, with readers", api.Lock{Writer: i, Readers: []int{1, 2}}})
		}
		for _, readers := range [][]int{{i}, {i, 0}, {11, i}, {0, i}, {i, 3, 4}, {3, i, 4}, {3, 4, i}} {
			l = append(l, named{"a reader that is no task", read(readers, "")})
			l = append(l, named{"a reader that is no task", read(readers, "w7 r8")})
		}
		for _, write := range []bool{false, true} {
			w := api.Wait{Task: i, Write: write}
			for at := range 4 {
				l = append(l,
					named{"one waits that is no task", api.Lock{Writer: 5, Queue: slices.Insert(waiting("w7 r8 r0"), at, w)}},
					named{"one waits that is no task", api.Lock{Writer: nobody, Readers: []int{5}, Queue: slices.Insert(waiting("w7 r8 r0"), at, w)}})
			}
			l = append(l, named{"one waits alone that is no task", api.Lock{Writer: 5, Queue: []api.Wait{w}}})
		}
	}
	return l
}

// twice are locks with a task in two places.
func twice() []named {
	l := []named{
		{"a task reads twice", read([]int{0, 0}, "")},
		{"a task reads twice", read([]int{11, 11}, "")},
		{"a task reads twice", read([]int{3, 4, 4, 5}, "w6")},
		{"a task reads twice", read([]int{3, 4, 3}, "")},
	}
	for _, i := range []int{0, 1, 6, 11} {
		l = append(l,
			named{"a task writes and reads", api.Lock{Writer: i, Readers: []int{i}}},
			named{"a task writes and reads", api.Lock{Writer: i, Readers: []int{i}, Queue: waiting("w5")}})
		for _, write := range []bool{false, true} {
			w := api.Wait{Task: i, Write: write}
			for at := range 3 {
				l = append(l,
					named{"a task writes and waits", api.Lock{Writer: i, Queue: slices.Insert(waiting("w4 r3"), at, w)}},
					named{"a task reads and waits", api.Lock{Writer: nobody, Readers: []int{i}, Queue: slices.Insert(waiting("w4 r3"), at, w)}},
					named{"a task waits twice", api.Lock{Writer: 8, Queue: append(slices.Insert(waiting("w4 r3"), at, w), api.Wait{Task: i})}},
					named{"a task waits twice", api.Lock{Writer: 8, Queue: append(slices.Insert(waiting("w4 r3"), at, w), api.Wait{Task: i, Write: true})}},
					named{"a task waits twice", api.Lock{Writer: nobody, Readers: []int{8}, Queue: append(slices.Insert(waiting("w4 r3 w2"), at+1, w), w)}})
			}
			l = append(l, named{"a task writes and waits alone", api.Lock{Writer: i, Queue: []api.Wait{w}}})
		}
		l = append(l,
			named{"one reads and waits as the last one", api.Lock{Writer: nobody, Readers: []int{i}, Queue: append(waiting("w8"), api.Wait{Task: i})}},
			named{"one waits twice, one behind the other", api.Lock{Writer: 8, Queue: []api.Wait{{Task: i}, {Task: i}}}})
	}
	return l
}

// tooEarly are locks that the first one of the queue could have.
func tooEarly() []named {
	var l []named
	for _, queue := range []string{"w0", "r0", "w11", "r11", "w3 r4", "r4 w3", "r1 r2 r3", "w5 w6"} {
		l = append(l, named{"the first one could have what nobody has", read(nil, queue)})
	}
	for _, queue := range []string{"r0", "r11", "r3 w4", "r4 r3 w0"} {
		for _, readers := range [][]int{{1}, {2, 5}, {1, 8, 9, 10}} {
			l = append(l, named{"the first one could read with others", read(readers, queue)})
		}
	}
	return l
}

// P14.1: ErrBad unless a lock is valid.
func TestNotValid(t *testing.T) {
	for _, bad := range notValid() {
		checkLock(t, bad.name, bad.lock, api.ErrBad)
	}
}

// Only the first one of the queue must not be able to have the lock: behind it one may read or write.
func TestBehindFirst(t *testing.T) {
	for _, queue := range []string{"w3", "w3 r4", "w3 w4", "w3 r4 r5 w6 r7"} {
		checkLock(t, "behind readers", read([]int{1, 2}, queue), api.OK)
		checkLock(t, "behind a writer", written(1, queue), api.OK)
	}
	for _, queue := range []string{"r3", "r3 w4", "r3 r4", "r3 w4 r5"} {
		checkLock(t, "behind readers", read([]int{1, 2}, queue), api.ErrBad)
		checkLock(t, "behind a writer", written(1, queue), api.OK)
	}
}

// Each function with a lock has Check's error first, whatever else it is given.
func TestNotValidFirst(t *testing.T) {
	tasks := []int{0, 1, 5, 8, 11, -1, 12, math.MinInt, math.MaxInt}
	for _, bad := range notValid() {
		for _, i := range tasks {
			checkHolds(t, bad.lock, i, 0, api.ErrBad)
			checkFree(t, bad.lock, i, api.Lock{}, nil, api.ErrBad)
			checkLeave(t, bad.lock, i, api.Lock{}, nil, api.ErrBad)
			checkAsk(t, bad.lock, i, false, api.Lock{}, false, api.ErrBad)
			checkAsk(t, bad.lock, i, true, api.Lock{}, false, api.ErrBad)
		}
	}
}

// Each function with a task has ErrArg unless it is one, also where -1 stands for nobody who writes.
func TestNoTask(t *testing.T) {
	for _, l := range shapes() {
		for _, i := range strange() {
			checkHolds(t, l, i, 0, api.ErrArg)
			checkFree(t, l, i, api.Lock{}, nil, api.ErrArg)
			checkLeave(t, l, i, api.Lock{}, nil, api.ErrArg)
			checkAsk(t, l, i, false, api.Lock{}, false, api.ErrArg)
			checkAsk(t, l, i, true, api.Lock{}, false, api.ErrArg)
		}
	}
}

// P14.1: what Holds returns, told one by one.
func TestHolds(t *testing.T) {
	for _, step := range []struct {
		lock api.Lock
		want map[int]int // of the tasks for which it is not 0
	}{
		{free(), nil},
		{written(0, ""), map[int]int{0: 2}},
		{written(11, ""), map[int]int{11: 2}},
		{read([]int{0}, ""), map[int]int{0: 1}},
		{read([]int{0, 11}, ""), map[int]int{0: 1, 11: 1}},
		{read([]int{1, 2}, "w3 r4"), map[int]int{1: 1, 2: 1, 3: -1, 4: -1}},
		{written(3, "r4"), map[int]int{3: 2, 4: -1}},
		{written(5, "r11 w0 r7"), map[int]int{5: 2, 11: -1, 0: -1, 7: -1}},
		{read([]int{6}, "w11 w0"), map[int]int{6: 1, 11: -1, 0: -1}},
	} {
		for i := range maxTasks {
			checkHolds(t, step.lock, i, step.want[i], api.OK)
		}
	}
	for _, l := range shapes() {
		for i := range maxTasks {
			want := 0
			switch {
			case i == l.Writer:
				want = 2
			case slices.Contains(l.Readers, i):
				want = 1
			case slices.Contains(waitFor(l), i):
				want = -1
			}
			checkHolds(t, l, i, want, api.OK)
		}
	}
}
