package sched_test

import (
	"slices"
	"testing"

	"braid/api"
)

// P13.3: rounds, told one by one.
func TestRounds(t *testing.T) {
	for _, step := range []struct {
		tasks api.Tasks
		want  []int
	}{
		{alone(1, 3), []int{0, 0, 0}},
		{alone(3, 2), []int{0, 1, 2, 0, 1, 2}},
		{chain(3, 2), []int{0, 0, 1, 1, 2, 2}},
		{behindOne(3, 2), []int{0, 0, 1, 2, 1, 2}},
		{api.Tasks{Left: []int{1, 2, 3}, After: []int{-1, -1, -1}}, []int{0, 1, 2, 1, 2, 2}},
		{api.Tasks{Left: []int{3, 2, 1}, After: []int{-1, -1, -1}}, []int{0, 1, 2, 0, 1, 0}},
		{api.Tasks{Left: []int{0, 2, 1}, After: []int{-1, -1, -1}}, []int{1, 2, 1}},
		// What becomes runnable behind the last pick is picked before a task from 0 on is.
		{api.Tasks{Left: []int{2, 1, 2}, After: []int{-1, -1, 1}}, []int{0, 1, 2, 0, 2}},
		// What becomes runnable before it waits until the round goes on from 0.
		{api.Tasks{Left: []int{1, 2, 1, 2}, After: []int{-1, 0, 0, -1}}, []int{0, 1, 2, 3, 1, 3}},
		{api.Tasks{Left: []int{2, 1, 1, 2}, After: []int{-1, 0, -1, -1}}, []int{0, 2, 3, 0, 1, 3}},
		{alone(2, 0), nil},
	} {
		for n := range len(step.want) + 1 {
			checkRounds(t, step.tasks, n, step.want[:n], api.OK)
		}
		// Behind the last step the round ends, however many picks are asked for.
		for _, n := range []int{len(step.want) + 1, len(step.want) + 2, maxPicks - 1, maxPicks} {
			checkRounds(t, step.tasks, n, step.want, api.OK)
		}
	}
}

// P13.3: rounds of 0, of MaxPicks, and of any number between.
func TestRoundsNumber(t *testing.T) {
	for _, x := range shapes() {
		checkRounds(t, x, 0, nil, api.OK)
		want := roundOf(x, maxPicks)
		if len(want) != min(total(x), maxPicks) {
			t.Errorf("a round of %v has %d picks", x, len(want))
		}
		for n := range maxPicks + 1 {
			checkRounds(t, x, n, want[:min(n, len(want))], api.OK)
		}
	}
	checkRounds(t, alone(maxTasks, maxLeft), maxPicks, roundRobin(maxTasks, maxPicks), api.OK)
	checkRounds(t, alone(5, maxLeft), maxPicks, roundRobin(5, maxPicks), api.OK)
	checkRounds(t, chain(6, maxLeft), maxPicks, numbered(maxPicks, func(i int) int { return i / maxLeft }), api.OK)
}

// P13.3: ErrArg unless n is from 0 to MaxPicks, also where fewer steps are left.
func TestRoundsArg(t *testing.T) {
	for _, x := range shapes() {
		for _, n := range strange(maxPicks) {
			checkRounds(t, x, n, nil, api.ErrArg)
		}
	}
}

// P13.3: picks that are fair from a window on, and for no lesser one, told one by one.
func TestFair(t *testing.T) {
	for _, step := range []struct {
		tasks api.Tasks
		picks []int
		least int
	}{
		{example(), []int{1, 2, 0, 0, 2}, 3},
		{example(), nil, 1},
		{alone(1, 3), []int{0, 0, 0, 0}, 1},
		{alone(1, 0), []int{0, 0}, 1},
		{alone(2, 9), []int{0}, 2},
		{alone(2, 9), []int{0, 0, 0}, 4},
		{alone(2, 9), []int{0, 1, 0, 1}, 2},
		{alone(2, 9), []int{0, 0, 1, 1, 1, 0}, 4},
		{alone(2, 9), []int{1, 1, 1, 1, 0}, 5},
		{alone(2, 9), []int{0, 1, 1, 1, 1}, 5},
		{alone(3, 9), []int{0, 1, 2, 0, 1, 2}, 3},
		// A task waits only from where it is runnable on: 1 is behind 0, which has two steps.
		{chain(2, 2), []int{0, 0}, 1},
		{chain(2, 2), []int{0, 0, 0}, 2},
		{chain(2, 2), []int{0, 0, 0, 0, 1}, 3},
		{chain(2, 2), []int{1, 0, 0, 1, 1}, 2},
		{chain(2, 2), []int{1, 1, 1, 0}, 4},
		// A task waits no more when it is done: 0 has one step.
		{api.Tasks{Left: []int{1, 9}, After: []int{-1, -1}}, []int{0, 1, 1, 1, 1}, 2},
		{api.Tasks{Left: []int{2, 9}, After: []int{-1, -1}}, []int{0, 1, 1, 1, 1}, 5},
		// Picks of a task that is not runnable let others wait.
		{alone(2, 1), []int{0, 0, 0, 1}, 4},
		{alone(2, 1), []int{0, 1, 0, 0, 0, 0}, 2},
		{behindOne(3, 1), []int{1, 2, 1, 2, 0, 2, 2, 2, 1}, 5},
		{behindOne(3, 1), []int{0, 1, 1, 1, 1, 1, 1, 2}, 7},
		// Two tasks that wait one after the other do not wait for as long as both.
		{alone(3, 2), []int{0, 2, 1, 2, 0, 1}, 4},
	} {
		for window := 1; window <= len(step.picks)+2; window++ {
			checkFair(t, step.tasks, step.picks, window, window >= step.least, api.OK)
		}
	}
}

// P13.3: any picks are fair for a window that is longer than they are, and no picks are fair for any window.
func TestFairLong(t *testing.T) {
	long := strange(maxPicks)
	long = slices.DeleteFunc(long, func(window int) bool { return window < 0 })
	for _, x := range shapes() {
		for _, n := range []int{0, 1, 2, 17, maxPicks} {
			for i := range x.Left {
				picks := numbered(n, always(i))
				for _, window := range append(long, n+1, n+2) {
					checkFair(t, x, picks, window, true, api.OK)
				}
			}
		}
		for window := 1; window <= 3; window++ {
			checkFair(t, x, nil, window, true, api.OK)
		}
	}
	for _, n := range []int{1, 2, 17, maxPicks} {
		checkFair(t, alone(2, 1), make([]int, n), n, false, api.OK)
	}
}

// P13.3: ErrArg unless a window is at least 1, also where there are no picks.
func TestFairArg(t *testing.T) {
	for _, x := range shapes() {
		for _, picks := range [][]int{nil, {0}, roundRobin(len(x.Left), 7), make([]int, maxPicks)} {
			for _, window := range append(strange(maxPicks), 0) {
				if window < 1 {
					checkFair(t, x, picks, window, false, api.ErrArg)
				}
			}
		}
	}
}
