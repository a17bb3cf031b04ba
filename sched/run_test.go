package sched_test

import (
	"slices"
	"testing"

	"braid/api"
)

// The chapter's example.
func TestExample(t *testing.T) {
	x := example()
	checkRunnable(t, x, []int{0, 1}, api.OK)
	checkRounds(t, x, 4, []int{0, 1, 0, 2}, api.OK)
	picks := []int{1, 2, 0, 0, 2}
	checkRun(t, x, picks, api.Tasks{Left: []int{0, 0, 0}, After: x.After}, []int{0, 2, 3, 4}, api.OK)
	checkFair(t, x, picks, 3, true, api.OK)
	checkFair(t, x, picks, 2, false, api.OK)
}

// P13.2: a pick of a runnable task takes one step of this task; any other one changes nothing.
func TestPick(t *testing.T) {
	x := example()
	checkPick(t, x, 0, api.Tasks{Left: []int{1, 1, 1}, After: x.After}, true, api.OK)
	checkPick(t, x, 1, api.Tasks{Left: []int{2, 0, 1}, After: x.After}, true, api.OK)
	checkPick(t, x, 2, x, false, api.OK)
	x.Left = []int{1, 0, 1}
	checkPick(t, x, 0, api.Tasks{Left: []int{0, 0, 1}, After: x.After}, true, api.OK)
	checkPick(t, x, 1, x, false, api.OK)
	checkPick(t, x, 2, x, false, api.OK)
	x.Left = []int{0, 0, 1}
	checkPick(t, x, 0, x, false, api.OK)
	checkPick(t, x, 2, api.Tasks{Left: []int{0, 0, 0}, After: x.After}, true, api.OK)
	for _, x := range shapes() {
		for i := range x.Left {
			want, yes := x, slices.Contains(ready(x), i)
			if yes {
				want.Left = with(x.Left, i, x.Left[i]-1)
			}
			checkPick(t, x, i, want, yes, api.OK)
		}
	}
}

// P13.2: ErrArg unless a pick is the number of a task.
func TestPickArg(t *testing.T) {
	for _, x := range shapes() {
		for _, i := range strange(len(x.Left) - 1) {
			checkPick(t, x, i, api.Tasks{}, false, api.ErrArg)
		}
	}
}

// P13.2: a run of no picks changes nothing, and picks of tasks that are not runnable take no steps.
func TestRunNone(t *testing.T) {
	for _, x := range shapes() {
		checkRun(t, x, nil, x, nil, api.OK)
		checkRun(t, x, []int{}, x, []int{}, api.OK)
		for i := range x.Left {
			if !slices.Contains(ready(x), i) {
				checkRun(t, x, slices.Repeat([]int{i}, maxPicks), x, nil, api.OK)
			}
		}
	}
}

// P13.2: runs, told one by one.
func TestRun(t *testing.T) {
	for _, step := range []struct {
		tasks      api.Tasks
		picks      []int
		left, want []int
	}{
		{alone(1, 2), []int{0, 0, 0}, []int{0}, []int{0, 1}},
		{alone(3, 1), []int{2, 0, 1, 1, 0, 2}, []int{0, 0, 0}, []int{0, 1, 2}},
		{chain(3, 1), []int{2, 1, 0, 2, 1, 0, 2, 2}, []int{0, 0, 0}, []int{2, 4, 6}},
		{chain(3, 2), []int{0, 1, 0, 1, 2, 1}, []int{0, 0, 2}, []int{0, 2, 3, 5}},
		{behindOne(4, 1), []int{3, 2, 1, 0, 3, 1, 2}, []int{0, 0, 0, 0}, []int{3, 4, 5, 6}},
		{behindOne(4, 2), []int{0, 3, 0, 3, 1}, []int{0, 1, 2, 1}, []int{0, 2, 3, 4}},
		{alone(2, 0), []int{0, 1, 0}, []int{0, 0}, nil},
	} {
		checkRun(t, step.tasks, step.picks, api.Tasks{Left: step.left, After: step.tasks.After}, step.want, api.OK)
	}
}

// P13.2: MaxPicks picks are a list.
func TestRunMost(t *testing.T) {
	x := alone(maxTasks, maxLeft)
	picks := numbered(maxPicks, func(i int) int { return i % maxTasks })
	checkRun(t, x, picks, alone(maxTasks, maxLeft-maxPicks/maxTasks), numbered(maxPicks, func(i int) int { return i }), api.OK)
	checkRun(t, alone(1, maxLeft), make([]int, maxPicks), alone(1, 0), numbered(maxLeft, func(i int) int { return i }), api.OK)
	checkFair(t, x, picks, maxTasks, true, api.OK)
	checkFair(t, x, picks, maxTasks-1, false, api.OK)
}

// A list of more than MaxPicks picks is ErrMany, whatever the picks and the window are.
func TestMany(t *testing.T) {
	for _, x := range shapes() {
		for _, n := range []int{maxPicks + 1, maxPicks + 2, 2 * maxPicks, 1 << 16} {
			for _, picks := range [][]int{make([]int, n), numbered(n, always(-1)), with(make([]int, n), n-1, maxTasks)} {
				checkRun(t, x, picks, api.Tasks{}, nil, api.ErrMany)
				for _, window := range []int{1, n, 0, -1} {
					checkFair(t, x, picks, window, false, api.ErrMany)
				}
			}
		}
	}
}

// A list of picks is ErrArg if one of them, at any place, is not the number of a task, also where the others took steps, and whatever the window is.
func TestPicksArg(t *testing.T) {
	for _, x := range shapes() {
		for _, i := range strange(len(x.Left) - 1) {
			for _, n := range []int{1, 2, 5, maxPicks} {
				for _, at := range []int{0, n / 2, n - 1} {
					picks := with(roundRobin(len(x.Left), n), at, i)
					checkRun(t, x, picks, api.Tasks{}, nil, api.ErrArg)
					for _, window := range []int{1, n, 0, -1} {
						checkFair(t, x, picks, window, false, api.ErrArg)
					}
				}
			}
		}
	}
}

// roundRobin are n picks of one task after the other, runnable or not.
func roundRobin(tasks, n int) []int {
	return numbered(n, func(i int) int { return i % tasks })
}
