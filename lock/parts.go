package lock

import (
	"slices"

	"braid/api"
)

// nobody is the writer of a lock that no task writes with.
const nobody = -1

// What Holds returns.
const (
	waits  = -1
	absent = 0
	reads  = 1
	writes = 2
)

func isTask(i int) bool {
	return i >= 0 && i < api.MaxTasks
}

// everybody returns the tasks that have a lock, and those that wait for it.
func everybody(l api.Lock) []int {
	all := append([]int(nil), l.Readers...)
	if l.Writer != nobody {
		all = append(all, l.Writer)
	}
	for _, w := range l.Queue {
		all = append(all, w.Task)
	}
	return all
}

// areDifferentTasks reports whether all numbers are tasks, and none is there twice.
func areDifferentTasks(l []int) bool {
	var seen [api.MaxTasks]bool
	for _, i := range l {
		if !isTask(i) || seen[i] {
			return false
		}
		seen[i] = true
	}
	return true
}

// canHave reports whether one that waits can have a lock, if it is the first one of the queue.
func canHave(l api.Lock, w api.Wait) bool {
	return l.Writer == nobody && (!w.Write || len(l.Readers) == 0)
}

// granted returns a lock after it was granted as far as it can be, and the tasks to which it was, in order. The result shares no memory with l.
func granted(l api.Lock) (api.Lock, []int) {
	var to []int
	for len(l.Queue) > 0 && canHave(l, l.Queue[0]) {
		first := l.Queue[0]
		l = given(l, first)
		l.Queue = l.Queue[1:]
		to = append(to, first.Task)
	}
	return copied(l), to
}

// given returns a lock that one that can have it has.
func given(l api.Lock, w api.Wait) api.Lock {
	if w.Write {
		l.Writer = w.Task
		return l
	}
	at, _ := slices.BinarySearch(l.Readers, w.Task)
	l.Readers = with(l.Readers, at, w.Task)
	return l
}

// placeInQueue returns where a task waits in the queue, or -1 if it does not.
func placeInQueue(l api.Lock, task int) int {
	return slices.IndexFunc(l.Queue, func(w api.Wait) bool { return w.Task == task })
}

// with returns a list with one element more, at a place. As the part before it is cut without room behind it, append takes new memory and leaves that of l as it is.
func with[T any](l []T, at int, more T) []T {
	return append(append(l[:at:at], more), l[at:]...)
}

// without returns a list without the element at a place, and leaves the memory of l as it is, as with does.
func without[T any](l []T, at int) []T {
	return append(l[:at:at], l[at+1:]...)
}

// copied returns a lock that shares no memory with l.
func copied(l api.Lock) api.Lock {
	return api.Lock{Writer: l.Writer, Readers: append([]int(nil), l.Readers...), Queue: append([]api.Wait(nil), l.Queue...)}
}
