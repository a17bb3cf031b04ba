package lock_test

import (
	"slices"
	"testing"

	"braid/api"
	"braid/lock"
)

// memory is what lists stand in: those of tasks, and those of tasks that wait.
type memory struct {
	tasks [][]int
	waits [][]api.Wait
}

func memoryOf(l api.Lock, more ...[]int) memory {
	return memory{tasks: append(more, l.Readers), waits: [][]api.Wait{l.Queue}}
}

// call is a call with a lock and a task; it returns what the result stands in.
type call func(l api.Lock, task int) memory

// calls are the calls of all functions with a lock.
func calls() map[string]call {
	return map[string]call{
		"Check": func(l api.Lock, task int) memory {
			lock.Check(l)
			return memory{}
		},
		"Ask to read": func(l api.Lock, task int) memory {
			m, _, _ := lock.Ask(l, task, false)
			return memoryOf(m)
		},
		"Ask to write": func(l api.Lock, task int) memory {
			m, _, _ := lock.Ask(l, task, true)
			return memoryOf(m)
		},
		"Free": func(l api.Lock, task int) memory {
			m, to, _ := lock.Free(l, task)
			return memoryOf(m, to)
		},
		"Leave": func(l api.Lock, task int) memory {
			m, to, _ := lock.Leave(l, task)
			return memoryOf(m, to)
		},
		"Holds": func(l api.Lock, task int) memory {
			lock.Holds(l, task)
			return memory{}
		},
	}
}

// roomy is a list that stands in more memory than it shows.
func roomy[T any](l []T, more ...T) []T {
	return slices.Concat(l, more)[:len(l)]
}

func roomyLock(l api.Lock) api.Lock {
	return api.Lock{Writer: l.Writer, Readers: roomy(l.Readers, 3, 0, -1, 7, 5, 11), Queue: roomy(l.Queue, waiting("w2 r9 w0 r4 r11 w10")...)}
}

// wholeOf are copies of lists up to their capacities.
func wholeOf[T any](lists [][]T) [][]T {
	var l [][]T
	for _, some := range lists {
		l = append(l, slices.Clone(some[:cap(some)]))
	}
	return l
}

func (m memory) copied() memory {
	return memory{tasks: wholeOf(m.tasks), waits: wholeOf(m.waits)}
}

func (m memory) same(n memory) bool {
	return slices.EqualFunc(m.tasks, n.tasks, slices.Equal[[]int]) && slices.EqualFunc(m.waits, n.waits, slices.Equal[[]api.Wait])
}

// spoil overwrites all lists up to their capacities, each one with something else.
func (m memory) spoil() {
	for i, l := range m.tasks {
		for j := range cap(l) {
			l[:cap(l)][j] = 1000 + i
		}
	}
	for i, l := range m.waits {
		for j := range cap(l) {
			l[:cap(l)][j] = api.Wait{Task: 1000 + i, Write: true}
		}
	}
}

// isApart reports whether no two lists of tasks share memory; it overwrites them.
func (m memory) isApart() bool {
	m.spoil()
	for i, l := range m.tasks {
		if slices.ContainsFunc(l[:cap(l)], func(n int) bool { return n != 1000+i }) {
			return false
		}
	}
	return true
}

func checkMemory(t *testing.T, name string, call call, l api.Lock, task int) {
	t.Helper()
	l = roomyLock(l)
	arguments := memoryOf(l)
	before := arguments.copied()
	one, two := call(l, task), call(l, task)
	if !arguments.copied().same(before) {
		t.Errorf("%s of %v with %d: an argument was changed", name, l, task)
	}
	want := one.copied()
	two.spoil()
	if !arguments.copied().same(before) || !one.copied().same(want) {
		t.Errorf("%s of %v with %d: a result shares memory with another call's, or with an argument", name, l, task)
	}
	arguments.spoil()
	if !one.copied().same(want) {
		t.Errorf("%s of %v with %d: a result was changed with an argument", name, l, task)
	}
	if !one.isApart() {
		t.Errorf("%s of %v with %d: lists of the result share memory", name, l, task)
	}
}

// R2: arguments stay as they were, up to the capacity of each list; results share no memory with them or with each other, and nothing is kept from call to call.
func TestMemory(t *testing.T) {
	for name, call := range calls() {
		for _, l := range shapes() {
			for task := -1; task <= maxTasks; task++ {
				checkMemory(t, name, call, l, task)
			}
		}
		for _, asked := range allAsked([]int{0, 4, 11}) {
			for _, task := range []int{0, 4, 7, 11} {
				checkMemory(t, name, call, lockOf(asked), task)
			}
		}
	}
}

// R2: locks that are not valid stay as they were too.
func TestRefusedMemory(t *testing.T) {
	for name, call := range calls() {
		for _, bad := range notValid() {
			checkMemory(t, name, call, bad.lock, 0)
		}
	}
}

// R2: results are the same, whatever is behind the end of the lists of a lock.
func TestRoomBehind(t *testing.T) {
	for _, l := range shapes() {
		tight := api.Lock{Writer: l.Writer, Readers: slices.Clip(slices.Clone(l.Readers)), Queue: slices.Clip(slices.Clone(l.Queue))}
		for name, call := range calls() {
			for i := range maxTasks {
				if one, two := call(tight, i), call(roomyLock(l), i); !shown(one).same(shown(two)) {
					t.Errorf("%s of %v with %d is not the same with room behind the lists", name, l, i)
				}
			}
		}
	}
}

// shown are the lists up to their lengths.
func shown(m memory) memory {
	var n memory
	for _, l := range m.tasks {
		n.tasks = append(n.tasks, slices.Clip(l))
	}
	for _, l := range m.waits {
		n.waits = append(n.waits, slices.Clip(l))
	}
	return n
}

// R2: locks that share their memory are changed apart from each other.
func TestTwoFromOne(t *testing.T) {
	l := roomyLock(read([]int{2, 6}, "w3 r4 w5"))
	checkAsk(t, l, 0, true, read([]int{2, 6}, "w3 r4 w5 w0"), false, api.OK)
	checkAsk(t, l, 1, false, read([]int{2, 6}, "w3 r4 w5 r1"), false, api.OK)
	one, _ := mustAsk(t, l, 7, false)
	two, _ := mustAsk(t, l, 8, true)
	three, _ := mustLeave(t, l, 3)
	four, _ := mustFree(t, l, 2)
	for _, step := range []struct{ got, want api.Lock }{
		{l, read([]int{2, 6}, "w3 r4 w5")},
		{one, read([]int{2, 6}, "w3 r4 w5 r7")},
		{two, read([]int{2, 6}, "w3 r4 w5 w8")},
		{three, read([]int{2, 4, 6}, "w5")},
		{four, read([]int{6}, "w3 r4 w5")},
	} {
		if !sameLock(step.got, step.want) {
			t.Errorf("there is %v, want %v", step.got, step.want)
		}
	}
	// What a call returned may be gone on with twice, too.
	one, _ = mustAsk(t, two, 9, true)
	two, _ = mustAsk(t, two, 10, true)
	if !sameLock(one, read([]int{2, 6}, "w3 r4 w5 w8 w9")) || !sameLock(two, read([]int{2, 6}, "w3 r4 w5 w8 w10")) {
		t.Errorf("there are %v and %v", one, two)
	}
}

// R5: each call gives the same as before.
func TestAgain(t *testing.T) {
	for _, l := range shapes() {
		for i := range maxTasks {
			first := map[string]memory{}
			for name, call := range calls() {
				first[name] = call(l, i)
			}
			for name, call := range calls() {
				if !shown(call(l, i)).same(shown(first[name])) {
					t.Errorf("%s of %v with %d is not the same again", name, l, i)
				}
			}
		}
	}
}
