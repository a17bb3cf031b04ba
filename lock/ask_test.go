package lock_test

import (
	"slices"
	"testing"

	"braid/api"
	"braid/lock"
)

// The chapter's example: two readers, a writer that waits, and a reader behind it.
func TestExample(t *testing.T) {
	checkAsk(t, lock.New(), 1, false, read([]int{1}, ""), true, api.OK)
	checkAsk(t, read([]int{1}, ""), 2, false, read([]int{1, 2}, ""), true, api.OK)
	checkAsk(t, read([]int{1, 2}, ""), 3, true, read([]int{1, 2}, "w3"), false, api.OK)
	all := read([]int{1, 2}, "w3 r4")
	checkAsk(t, read([]int{1, 2}, "w3"), 4, false, all, false, api.OK)
	checkFree(t, all, 1, read([]int{2}, "w3 r4"), nil, api.OK)
	checkFree(t, read([]int{2}, "w3 r4"), 2, written(3, "r4"), []int{3}, api.OK)
	checkFree(t, all, 2, read([]int{1}, "w3 r4"), nil, api.OK)
	checkFree(t, read([]int{1}, "w3 r4"), 1, written(3, "r4"), []int{3}, api.OK)
	checkFree(t, written(3, "r4"), 3, read([]int{4}, ""), []int{4}, api.OK)
	checkFree(t, read([]int{4}, ""), 4, free(), nil, api.OK)
	checkLeave(t, all, 3, read([]int{1, 2, 4}, ""), []int{4}, api.OK)
	checkLeave(t, read([]int{2}, "w3 r4"), 3, read([]int{2, 4}, ""), []int{4}, api.OK)
}

// P14.2: results told one by one.
func TestAsk(t *testing.T) {
	for _, step := range []struct {
		lock  api.Lock
		task  int
		write bool
		want  api.Lock
		got   bool
	}{
		// Nobody has it.
		{free(), 0, true, written(0, ""), true},
		{free(), 11, true, written(11, ""), true},
		{free(), 0, false, read([]int{0}, ""), true},
		{free(), 11, false, read([]int{11}, ""), true},
		// One writes.
		{written(0, ""), 11, true, written(0, "w11"), false},
		{written(11, ""), 0, false, written(11, "r0"), false},
		{written(4, "r5"), 3, false, written(4, "r5 r3"), false},
		{written(4, "r5 w6"), 3, true, written(4, "r5 w6 w3"), false},
		{written(4, "w6"), 3, false, written(4, "w6 r3"), false},
		// Others read, and nobody waits.
		{read([]int{4}, ""), 3, false, read([]int{3, 4}, ""), true},
		{read([]int{4}, ""), 5, false, read([]int{4, 5}, ""), true},
		{read([]int{2, 8}, ""), 5, false, read([]int{2, 5, 8}, ""), true},
		{read([]int{2, 8}, ""), 0, false, read([]int{0, 2, 8}, ""), true},
		{read([]int{2, 8}, ""), 11, false, read([]int{2, 8, 11}, ""), true},
		{read(numbered(1, 11), ""), 0, false, read(numbered(0, 12), ""), true},
		{read(numbered(0, 11), ""), 11, false, read(numbered(0, 12), ""), true},
		{read([]int{0}, ""), 11, true, read([]int{0}, "w11"), false},
		{read([]int{2, 8}, ""), 5, true, read([]int{2, 8}, "w5"), false},
		{read(numbered(0, 11), ""), 11, true, read(numbered(0, 11), "w11"), false},
		// Others read, and one waits to write: whoever asks waits behind it.
		{read([]int{4}, "w0"), 3, false, read([]int{4}, "w0 r3"), false},
		{read([]int{4}, "w0"), 3, true, read([]int{4}, "w0 w3"), false},
		{read([]int{4, 6}, "w0 r1"), 11, false, read([]int{4, 6}, "w0 r1 r11"), false},
		{read([]int{4, 6}, "w0 r1 w7"), 5, false, read([]int{4, 6}, "w0 r1 w7 r5"), false},
		{api.Lock{Writer: 0, Queue: queueOf(numbered(1, 10), false)}, 11, true, api.Lock{Writer: 0, Queue: append(queueOf(numbered(1, 10), false), api.Wait{Task: 11, Write: true})}, false},
	} {
		checkAsk(t, step.lock, step.task, step.write, step.want, step.got, api.OK)
	}
}

// P14.2: each task may be the first one to ask, and the last one.
func TestAskEach(t *testing.T) {
	for i := range maxTasks {
		checkAsk(t, free(), i, true, written(i, ""), true, api.OK)
		checkAsk(t, free(), i, false, read([]int{i}, ""), true, api.OK)
		others := slices.DeleteFunc(numbered(0, maxTasks), func(j int) bool { return j == i })
		checkAsk(t, read(others, ""), i, false, read(numbered(0, maxTasks), ""), true, api.OK)
		for _, write := range []bool{false, true} {
			w := api.Wait{Task: i, Write: write}
			l := api.Lock{Writer: others[0], Queue: queueOf(others[1:], true)}
			checkAsk(t, l, i, write, api.Lock{Writer: l.Writer, Queue: append(slices.Clone(l.Queue), w)}, false, api.OK)
			l = api.Lock{Writer: nobody, Readers: others[:5], Queue: queueOf(others[5:], true)}
			checkAsk(t, l, i, write, api.Lock{Writer: nobody, Readers: l.Readers, Queue: append(slices.Clone(l.Queue), w)}, false, api.OK)
		}
	}
}

// P14.2: ErrTwice if a task writes, reads or waits, whatever it asks for.
func TestAskTwice(t *testing.T) {
	for _, l := range shapes() {
		for _, i := range append(waitFor(l), haveIt(l)...) {
			checkAsk(t, l, i, false, api.Lock{}, false, api.ErrTwice)
			checkAsk(t, l, i, true, api.Lock{}, false, api.ErrTwice)
		}
	}
}
