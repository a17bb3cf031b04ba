package sched

import "braid/api"

// checkPicks returns the first error of tasks with a list of picks.
func checkPicks(t api.Tasks, picks []int) api.Errno {
	if e := Check(t); e != api.OK {
		return e
	}
	if len(picks) > api.MaxPicks {
		return api.ErrMany
	}
	for _, i := range picks {
		if i < 0 || i >= len(t.Left) {
			return api.ErrArg
		}
	}
	return api.OK
}

// copied returns tasks that share no memory with t.
func copied(t api.Tasks) api.Tasks {
	return api.Tasks{Left: append([]int(nil), t.Left...), After: append([]int(nil), t.After...)}
}

func done(t api.Tasks, i int) bool {
	return t.Left[i] == 0
}

// runnable reports whether a task of valid ones is runnable.
func runnable(t api.Tasks, i int) bool {
	before := t.After[i]
	return !done(t, i) && (before < 0 || done(t, before))
}

// step lets a task of valid ones take a step, if it is runnable, and reports whether it did. It changes the memory of t.
func step(t api.Tasks, i int) bool {
	if !runnable(t, i) {
		return false
	}
	t.Left[i]--
	return true
}

// next returns the first runnable task from one on, and from 0 on again behind the last one, or -1 if there is none.
func next(t api.Tasks, from int) int {
	n := len(t.Left)
	for k := range n {
		if i := (from + k) % n; runnable(t, i) {
			return i
		}
	}
	return -1
}

// longestWait returns the greatest number of picks one behind the other before each of which the same task is runnable, and among which it is not. Picks are fair for just those windows that are greater.
func longestWait(t api.Tasks, picks []int) int {
	t = copied(t)
	longest := 0
	waits := make([]int, len(t.Left))
	for _, picked := range picks {
		for i := range waits {
			if i == picked || !runnable(t, i) {
				waits[i] = 0
				continue
			}
			waits[i]++
			longest = max(longest, waits[i])
		}
		step(t, picked)
	}
	return longest
}
