package lock_test

import (
	"testing"

	"braid/api"
)

// P14.3: results of Free told one by one.
func TestFree(t *testing.T) {
	for _, step := range []struct {
		lock api.Lock
		task int
		want api.Lock
		to   []int
	}{
		// Nobody waits.
		{written(0, ""), 0, free(), nil},
		{written(11, ""), 11, free(), nil},
		{read([]int{0}, ""), 0, free(), nil},
		{read([]int{11}, ""), 11, free(), nil},
		{read([]int{0, 5, 11}, ""), 0, read([]int{5, 11}, ""), nil},
		{read([]int{0, 5, 11}, ""), 5, read([]int{0, 11}, ""), nil},
		{read([]int{0, 5, 11}, ""), 11, read([]int{0, 5}, ""), nil},
		{read(numbered(0, 12), ""), 11, read(numbered(0, 11), ""), nil},
		{read(numbered(0, 12), ""), 0, read(numbered(1, 11), ""), nil},
		// Behind a writer.
		{written(0, "w11"), 0, written(11, ""), []int{11}},
		{written(11, "r0"), 11, read([]int{0}, ""), []int{0}},
		{written(3, "w4 w5"), 3, written(4, "w5"), []int{4}},
		{written(3, "w4 r5"), 3, written(4, "r5"), []int{4}},
		// Several readers get the lock together, in the order of asking, up to the next writer.
		{written(0, "r5 r3"), 0, read([]int{3, 5}, ""), []int{5, 3}},
		{written(0, "r5 r3 w4 r1"), 0, read([]int{3, 5}, "w4 r1"), []int{5, 3}},
		{written(7, "r11 r0 r5 r2"), 7, read([]int{0, 2, 5, 11}, ""), []int{11, 0, 5, 2}},
		{written(7, "r11 w0 r5 r2"), 7, read([]int{11}, "w0 r5 r2"), []int{11}},
		{api.Lock{Writer: 0, Queue: queueOf([]int{11, 10, 9, 8, 7, 6, 5, 4, 3, 2, 1}, false)}, 0, read(numbered(1, 11), ""), []int{11, 10, 9, 8, 7, 6, 5, 4, 3, 2, 1}},
		// A writer behind readers waits for the last one of them.
		{read([]int{1, 2}, "w3"), 1, read([]int{2}, "w3"), nil},
		{read([]int{1, 2}, "w3"), 2, read([]int{1}, "w3"), nil},
		{read([]int{2}, "w3"), 2, written(3, ""), []int{3}},
		{read([]int{0}, "w11 w5"), 0, written(11, "w5"), []int{11}},
		{read([]int{11}, "w0 r5 r4"), 11, written(0, "r5 r4"), []int{0}},
		{read([]int{4, 6, 8}, "w7 r5 r9"), 6, read([]int{4, 8}, "w7 r5 r9"), nil},
	} {
		checkFree(t, step.lock, step.task, step.want, step.to, api.OK)
	}
}

// P14.3: results of Leave told one by one.
func TestLeave(t *testing.T) {
	for _, step := range []struct {
		lock api.Lock
		task int
		want api.Lock
		to   []int
	}{
		// The only one that waits.
		{written(0, "w11"), 11, written(0, ""), nil},
		{written(11, "r0"), 0, written(11, ""), nil},
		{read([]int{1, 2}, "w3"), 3, read([]int{1, 2}, ""), nil},
		// The first one, behind which those that wait to read have the lock with the readers, up to the next writer.
		{read([]int{1, 2}, "w3 r4"), 3, read([]int{1, 2, 4}, ""), []int{4}},
		{read([]int{5}, "w3 r11 r0 r7"), 3, read([]int{0, 5, 7, 11}, ""), []int{11, 0, 7}},
		{read([]int{5}, "w3 r11 r0 w4 r7"), 3, read([]int{0, 5, 11}, "w4 r7"), []int{11, 0}},
		{read([]int{5}, "w3 w4 r7"), 3, read([]int{5}, "w4 r7"), nil},
		{read([]int{0}, "w11 r1 w2"), 11, read([]int{0, 1}, "w2"), []int{1}},
		// The first one, while a task writes.
		{written(5, "w3 r4"), 3, written(5, "r4"), nil},
		{written(5, "r3 r4"), 3, written(5, "r4"), nil},
		{written(5, "r3 w4"), 3, written(5, "w4"), nil},
		// One in the middle.
		{read([]int{5}, "w3 r4 w6"), 4, read([]int{5}, "w3 w6"), nil},
		{read([]int{5}, "w3 w4 r6"), 4, read([]int{5}, "w3 r6"), nil},
		{written(5, "r3 w4 r6 w7"), 4, written(5, "r3 r6 w7"), nil},
		{written(5, "r3 w4 r6 w7"), 6, written(5, "r3 w4 w7"), nil},
		// The last one.
		{read([]int{5}, "w3 r4 w6"), 6, read([]int{5}, "w3 r4"), nil},
		{read([]int{5}, "w3 r4"), 4, read([]int{5}, "w3"), nil},
		{written(5, "r3 w4 r6"), 6, written(5, "r3 w4"), nil},
		{written(5, "w0 w11"), 11, written(5, "w0"), nil},
		{read(numbered(0, 11), "w11"), 11, read(numbered(0, 11), ""), nil},
	} {
		checkLeave(t, step.lock, step.task, step.want, step.to, api.OK)
	}
}

// P14.3: ErrState of Free unless a task has the lock, also if it waits, and of Leave unless it waits, also if it has the lock.
func TestState(t *testing.T) {
	for _, l := range shapes() {
		for _, i := range absent(l) {
			checkFree(t, l, i, api.Lock{}, nil, api.ErrState)
			checkLeave(t, l, i, api.Lock{}, nil, api.ErrState)
		}
		for _, i := range waitFor(l) {
			checkFree(t, l, i, api.Lock{}, nil, api.ErrState)
		}
		for _, i := range haveIt(l) {
			checkLeave(t, l, i, api.Lock{}, nil, api.ErrState)
		}
	}
}
