package sched_test

import (
	"testing"

	"braid/api"
)

// P13.1: New returns the tasks with the lists, and these are valid, for as few and as many tasks and steps as may be.
func TestNew(t *testing.T) {
	for _, x := range shapes() {
		checkNew(t, "a shape", x.Left, x.After, x, api.OK)
		checkTasks(t, "a shape", x, api.OK)
	}
	for n := 1; n <= maxTasks; n++ {
		for _, x := range []api.Tasks{alone(n, 1), chain(n, 1)} {
			checkNew(t, "each number of tasks", x.Left, x.After, x, api.OK)
			checkTasks(t, "each number of tasks", x, api.OK)
		}
	}
}

// P13.1: each number of steps, and each task before it, at each place.
func TestNewElements(t *testing.T) {
	for i := range maxTasks {
		for left := range maxLeft + 1 {
			x := alone(maxTasks, 1)
			x.Left = with(x.Left, i, left)
			checkNew(t, "an element of Left", x.Left, x.After, x, api.OK)
			checkTasks(t, "an element of Left", x, api.OK)
		}
		for after := -1; after < i; after++ {
			x := alone(maxTasks, 1)
			x.After = with(x.After, i, after)
			checkNew(t, "an element of After", x.Left, x.After, x, api.OK)
			checkTasks(t, "an element of After", x, api.OK)
		}
	}
}

// P13.1: ErrBad unless tasks are valid.
func TestNotValid(t *testing.T) {
	for _, bad := range notValid() {
		checkNew(t, bad.name, bad.tasks.Left, bad.tasks.After, api.Tasks{}, api.ErrBad)
		checkTasks(t, bad.name, bad.tasks, api.ErrBad)
	}
}

// Each function with tasks has Check's error first, whatever else it is given.
func TestNotValidFirst(t *testing.T) {
	for _, bad := range notValid() {
		checkRunnable(t, bad.tasks, nil, api.ErrBad)
		for _, n := range append(strange(maxPicks), 0, 1) {
			checkPick(t, bad.tasks, n, api.Tasks{}, false, api.ErrBad)
			checkRounds(t, bad.tasks, n, nil, api.ErrBad)
		}
		for _, picks := range [][]int{nil, {0}, {-1}, {0, maxTasks}, make([]int, maxPicks+1)} {
			checkRun(t, bad.tasks, picks, api.Tasks{}, nil, api.ErrBad)
			for _, window := range []int{1, 0, -1} {
				checkFair(t, bad.tasks, picks, window, false, api.ErrBad)
			}
		}
	}
}

// P13.1: the runnable ones, told one by one.
func TestRunnable(t *testing.T) {
	for _, step := range []struct {
		tasks api.Tasks
		want  []int
	}{
		{example(), []int{0, 1}},
		{api.Tasks{Left: []int{0, 1, 1}, After: []int{-1, -1, 0}}, []int{1, 2}},
		{api.Tasks{Left: []int{0, 0, 1}, After: []int{-1, -1, 0}}, []int{2}},
		{api.Tasks{Left: []int{1}, After: []int{-1}}, []int{0}},
		{api.Tasks{Left: []int{0}, After: []int{-1}}, nil},
		{alone(maxTasks, maxLeft), []int{0, 1, 2, 3, 4, 5, 6, 7, 8, 9, 10, 11}},
		{alone(maxTasks, 0), nil},
		{chain(maxTasks, 1), []int{0}},
		{chain(maxTasks, 0), nil},
		{behindOne(4, 1), []int{0}},
		{api.Tasks{Left: []int{0, 1, 1, 1}, After: behindOne(4, 1).After}, []int{1, 2, 3}},
		// Only the task that is named has to be done, not one before that.
		{api.Tasks{Left: []int{1, 0, 1}, After: []int{-1, 0, 1}}, []int{0, 2}},
		{api.Tasks{Left: []int{0, 1, 1, 0, 1}, After: []int{-1, 0, 1, 1, 3}}, []int{1, 4}},
		{api.Tasks{Left: []int{60, 0, 0, 60}, After: []int{-1, 0, 0, 0}}, []int{0}},
	} {
		checkRunnable(t, step.tasks, step.want, api.OK)
	}
}
