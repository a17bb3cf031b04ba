package sched_test

import (
	"slices"
	"testing"

	"braid/api"
)

// ready are the runnable tasks, by the chapter's definition.
func ready(x api.Tasks) []int {
	var l []int
	for i, left := range x.Left {
		before := x.After[i]
		if left >= 1 && (before == -1 || x.Left[before] == 0) {
			l = append(l, i)
		}
	}
	return l
}

// states are the tasks before each of some picks, and behind the last one.
func states(x api.Tasks, picks []int) []api.Tasks {
	l := []api.Tasks{x}
	for _, i := range picks {
		if slices.Contains(ready(x), i) {
			x = api.Tasks{Left: with(x.Left, i, x.Left[i]-1), After: x.After}
		}
		l = append(l, x)
	}
	return l
}

// stepsOf are the indices of the states behind which there is another one.
func stepsOf(l []api.Tasks) []int {
	var steps []int
	for i := range len(l) - 1 {
		if !sameTasks(l[i], l[i+1]) {
			steps = append(steps, i)
		}
	}
	return steps
}

// roundOf is the round of n picks: the runnable task behind the last one, or else the first one.
func roundOf(x api.Tasks, n int) []int {
	var picks []int
	last := -1
	for len(picks) < n {
		l := ready(x)
		if len(l) == 0 {
			break
		}
		at := slices.IndexFunc(l, func(i int) bool { return i > last })
		last = l[max(at, 0)]
		picks = append(picks, last)
		x = states(x, []int{last})[1]
	}
	return picks
}

// isFair looks at each window, and at each task in it.
func isFair(x api.Tasks, picks []int, window int) bool {
	before := states(x, picks)
	for from := range picks {
		if window > len(picks)-from {
			break
		}
		for i := range x.Left {
			blocked := slices.ContainsFunc(before[from:from+window], func(y api.Tasks) bool { return !slices.Contains(ready(y), i) })
			if !blocked && !slices.Contains(picks[from:from+window], i) {
				return false
			}
		}
	}
	return true
}

// checkModel fails unless tasks with picks are what the definitions say; it returns whether they are fair for each of some windows.
func checkModel(t *testing.T, x api.Tasks, picks []int, windows ...int) []bool {
	t.Helper()
	all := states(x, picks)
	checkRun(t, x, picks, all[len(picks)], stepsOf(all), api.OK)
	var fair []bool
	for _, w := range windows {
		yes := isFair(x, picks, w)
		checkFair(t, x, picks, w, yes, api.OK)
		fair = append(fair, yes)
	}
	return fair
}

// P13.1 to P13.3: all few tasks with few steps, all few picks, all windows.
func TestSmall(t *testing.T) {
	lists := map[int][][]int{}
	for tasks := 1; tasks <= 3; tasks++ {
		for n := range 6 {
			lists[tasks] = append(lists[tasks], allPicks(tasks, n)...)
		}
	}
	fair, unfair := 0, 0
	for _, x := range small(3, 2) {
		checkNew(t, "small", x.Left, x.After, x, api.OK)
		checkTasks(t, "small", x, api.OK)
		checkRunnable(t, x, ready(x), api.OK)
		for i := range x.Left {
			y := states(x, []int{i})[1]
			checkPick(t, x, i, y, slices.Contains(ready(x), i), api.OK)
		}
		for n := range total(x) + 3 {
			checkRounds(t, x, n, roundOf(x, n), api.OK)
		}
		for _, picks := range lists[len(x.Left)] {
			for _, yes := range checkModel(t, x, picks, 1, 2, 3, 4, 5, 6) {
				if yes {
					fair++
				} else {
					unfair++
				}
			}
		}
	}
	if fair < 1000 || unfair < 1000 {
		t.Errorf("%d are fair, and %d are not", fair, unfair)
	}
}

// P13.1 to P13.3: tasks and picks that are drawn, with windows around the least one for which the picks are fair.
func TestDrawn(t *testing.T) {
	draw := newDraw()
	for i := range 600 {
		x := drawn(draw, i%maxTasks+1, []int{1, 2, 4, 9, maxLeft}[i%5])
		checkRunnable(t, x, ready(x), api.OK)
		n := draw.Intn(maxPicks + 1)
		if i%8 == 0 {
			n = maxPicks
		}
		checkRounds(t, x, n, roundOf(x, n), api.OK)
		picks := drawnPicks(draw, len(x.Left), draw.Intn(60))
		least := 1
		for !isFair(x, picks, least) {
			least++
		}
		checkModel(t, x, picks, max(1, least-2), max(1, least-1), least, least+1, least+2, draw.Intn(80)+1)
	}
	for i := range 60 {
		x := drawn(draw, i%maxTasks+1, maxLeft)
		checkModel(t, x, drawnPicks(draw, len(x.Left), maxPicks), draw.Intn(20)+1, draw.Intn(maxPicks)+1)
	}
}
