package lock_test

import (
	"math"
	"math/rand"
	"slices"
	"strconv"
	"strings"
	"testing"

	"braid/api"
	"braid/lock"
)

const (
	maxTasks = 12
	nobody   = -1
)

func newDraw() *rand.Rand {
	return rand.New(rand.NewSource(114))
}

// waiting reads those that wait from words: w3 is the task 3 that waits to write, and r4 the task 4 that waits to read.
func waiting(words string) []api.Wait {
	var l []api.Wait
	for _, word := range strings.Fields(words) {
		task, err := strconv.Atoi(word[1:])
		if err != nil || word[0] != 'w' && word[0] != 'r' {
			panic(word)
		}
		l = append(l, api.Wait{Task: task, Write: word[0] == 'w'})
	}
	return l
}

// written is a lock with which a task writes, and for which others wait.
func written(task int, queue string) api.Lock {
	return api.Lock{Writer: task, Queue: waiting(queue)}
}

// read is a lock with which tasks read, and for which others wait.
func read(tasks []int, queue string) api.Lock {
	return api.Lock{Writer: nobody, Readers: tasks, Queue: waiting(queue)}
}

// free is a lock that nobody has or waits for.
func free() api.Lock {
	return api.Lock{Writer: nobody}
}

// numbered are n numbers from one on.
func numbered(from, n int) []int {
	var l []int
	for i := range n {
		l = append(l, from+i)
	}
	return l
}

// queueOf are tasks that all wait to write, or all to read.
func queueOf(tasks []int, write bool) []api.Wait {
	var l []api.Wait
	for _, i := range tasks {
		l = append(l, api.Wait{Task: i, Write: write})
	}
	return l
}

// shapes are valid locks: free ones, with one and with many that have it, and with queues of none, of one and of many.
func shapes() []api.Lock {
	l := []api.Lock{free()}
	for _, task := range []int{0, 1, 5, 10, 11} {
		l = append(l, written(task, ""), read([]int{task}, ""))
	}
	l = append(l,
		written(0, "w11"), written(11, "r0"), written(3, "r1 r2 w4 r5"), written(3, "w4 w5 r0 r1"),
		written(7, "r11 r0 r5 w1 r2"), written(7, "w1 r3 w2 r4"), written(6, "r2 w11 w0"),
		read([]int{0}, "w11"), read([]int{11}, "w0"), read([]int{0, 11}, "w5"), read([]int{1, 2}, "w3 r4"),
		read([]int{4, 6, 8}, "w7 r5 r9 r3 w0 r1"), read([]int{2}, "w1 w0 w3"), read([]int{5, 10}, "w11 r6 w4"),
		read(numbered(0, maxTasks), ""), read(numbered(1, 11), "w0"), read(numbered(0, 11), "w11"), read(numbered(0, 6), "w6 r11 r7 r10 w8 r9"),
		api.Lock{Writer: 0, Queue: queueOf(numbered(1, 11), false)}, api.Lock{Writer: 11, Queue: queueOf(numbered(0, 11), true)},
		api.Lock{Writer: 5, Queue: append(queueOf(numbered(6, 6), false), queueOf(numbered(0, 5), true)...)})
	draw := newDraw()
	for range 60 {
		l = append(l, lockOf(drawnAsks(draw)))
	}
	return l
}

// drawnAsks are different tasks that asked one after the other; many of them to read.
func drawnAsks(draw *rand.Rand) []api.Wait {
	var l []api.Wait
	for _, i := range draw.Perm(maxTasks)[:draw.Intn(maxTasks+1)] {
		l = append(l, api.Wait{Task: i, Write: draw.Intn(3) == 0})
	}
	return l
}

// strange are numbers that are no tasks.
func strange() []int {
	return []int{-1, -2, -12, -256, math.MinInt32, math.MinInt, math.MinInt + 1, 12, 13, 24, 255, 256, 267, 1 << 32, 1<<32 + 5, math.MaxInt - 1, math.MaxInt}
}

// haveIt are the tasks that have a lock.
func haveIt(l api.Lock) []int {
	if l.Writer != nobody {
		return []int{l.Writer}
	}
	return l.Readers
}

// waitFor are the tasks that wait for a lock, the first one first.
func waitFor(l api.Lock) []int {
	var tasks []int
	for _, w := range l.Queue {
		tasks = append(tasks, w.Task)
	}
	return tasks
}

// absent are the tasks that neither have a lock nor wait for it.
func absent(l api.Lock) []int {
	present := append(waitFor(l), haveIt(l)...)
	return slices.DeleteFunc(numbered(0, maxTasks), func(i int) bool { return slices.Contains(present, i) })
}

func sameLock(a, b api.Lock) bool {
	return a.Writer == b.Writer && slices.Equal(a.Readers, b.Readers) && slices.Equal(a.Queue, b.Queue)
}

// The check functions fail unless a function returns what is wanted; with an error all else is zero.

func checkLock(t *testing.T, name string, l api.Lock, want api.Errno) {
	t.Helper()
	if e := lock.Check(l); e != want {
		t.Errorf("%s: Check(%v) = %v, want %v", name, l, e, want)
	}
}

func checkHolds(t *testing.T, l api.Lock, task int, want int, wantError api.Errno) {
	t.Helper()
	if n, e := lock.Holds(l, task); e != wantError || n != want {
		t.Errorf("Holds(%v, %d) = %d, %v, want %d, %v", l, task, n, e, want, wantError)
	}
}

func checkAsk(t *testing.T, l api.Lock, task int, write bool, want api.Lock, got bool, wantError api.Errno) {
	t.Helper()
	if m, yes, e := lock.Ask(l, task, write); e != wantError || yes != got || !sameLock(m, want) {
		t.Errorf("Ask(%v, %d, %v) = %v, %v, %v, want %v, %v, %v", l, task, write, m, yes, e, want, got, wantError)
	}
}

func checkFree(t *testing.T, l api.Lock, task int, want api.Lock, to []int, wantError api.Errno) {
	t.Helper()
	if m, tasks, e := lock.Free(l, task); e != wantError || !slices.Equal(tasks, to) || !sameLock(m, want) {
		t.Errorf("Free(%v, %d) = %v, %v, %v, want %v, %v, %v", l, task, m, tasks, e, want, to, wantError)
	}
}

func checkLeave(t *testing.T, l api.Lock, task int, want api.Lock, to []int, wantError api.Errno) {
	t.Helper()
	if m, tasks, e := lock.Leave(l, task); e != wantError || !slices.Equal(tasks, to) || !sameLock(m, want) {
		t.Errorf("Leave(%v, %d) = %v, %v, %v, want %v, %v, %v", l, task, m, tasks, e, want, to, wantError)
	}
}

func mustAsk(t *testing.T, l api.Lock, task int, write bool) (api.Lock, bool) {
	t.Helper()
	m, got, e := lock.Ask(l, task, write)
	if e != api.OK {
		t.Fatalf("Ask(%v, %d, %v): %v", l, task, write, e)
	}
	return m, got
}

func mustFree(t *testing.T, l api.Lock, task int) (api.Lock, []int) {
	t.Helper()
	m, to, e := lock.Free(l, task)
	if e != api.OK {
		t.Fatalf("Free(%v, %d): %v", l, task, e)
	}
	return m, to
}

func mustLeave(t *testing.T, l api.Lock, task int) (api.Lock, []int) {
	t.Helper()
	m, to, e := lock.Leave(l, task)
	if e != api.OK {
		t.Fatalf("Leave(%v, %d): %v", l, task, e)
	}
	return m, to
}

func mustHold(t *testing.T, l api.Lock, task int) int {
	t.Helper()
	n, e := lock.Holds(l, task)
	if e != api.OK {
		t.Fatalf("Holds(%v, %d): %v", l, task, e)
	}
	return n
}
