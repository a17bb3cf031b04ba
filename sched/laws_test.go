package sched_test

import (
	"slices"
	"testing"

	"braid/api"
	"braid/sched"
)

// P13.4: each pick of a round takes a step, and a round of as many picks as there are steps left does all tasks.
func TestRoundSteps(t *testing.T) {
	for _, x := range shapes() {
		steps := total(x)
		for _, n := range []int{0, 1, 2, 3, 10, maxPicks, min(steps, maxPicks)} {
			picks := mustRounds(t, x, n)
			y, stepped := mustRun(t, x, picks)
			if len(picks) != min(n, steps) || !slices.Equal(stepped, numbered(len(picks), func(i int) int { return i })) {
				t.Errorf("of the %d picks %v of %v those at %v take steps", n, picks, x, stepped)
			}
			if n >= steps && total(y) > 0 {
				t.Errorf("a round of %d picks of %v leaves %v", n, x, y)
			}
		}
		if steps > maxPicks {
			checkRounds(t, x, steps, nil, api.ErrArg)
		}
	}
}

// P13.4: tasks with more steps left than a list has picks are done by several rounds.
func TestSeveralRounds(t *testing.T) {
	for _, x := range []api.Tasks{alone(maxTasks, maxLeft), chain(maxTasks, maxLeft), behindOne(maxTasks, maxLeft)} {
		for _, want := range []int{420, 120, 0} {
			x, _ = mustRun(t, x, mustRounds(t, x, maxPicks))
			if total(x) != want {
				t.Errorf("%v is left, want %d steps", x, want)
			}
		}
	}
}

// P13.4: a round is fair for a window of twice the number of tasks.
func TestRoundFair(t *testing.T) {
	for _, x := range shapes() {
		for _, n := range []int{0, 1, len(x.Left), 2 * len(x.Left), 2*len(x.Left) + 1, 100, maxPicks} {
			checkFair(t, x, mustRounds(t, x, n), 2*len(x.Left), true, api.OK)
		}
	}
}

// leastWindow is the least window for which picks are fair.
func leastWindow(t *testing.T, x api.Tasks, picks []int) int {
	t.Helper()
	window := 1
	for !mustFair(t, x, picks, window) {
		window++
	}
	return window
}

// stepsWithin reports whether each task that is runnable before a pick takes a step within a number of picks from this one on, where there are so many.
func stepsWithin(t *testing.T, x api.Tasks, picks []int, number int) bool {
	t.Helper()
	for from := 0; from+number <= len(picks); from++ {
		y, _ := mustRun(t, x, picks[:from])
		some := picks[from : from+number]
		_, stepped := mustRun(t, y, some)
		for _, i := range mustRunnable(t, y) {
			if !slices.ContainsFunc(stepped, func(at int) bool { return some[at] == i }) {
				return false
			}
		}
	}
	return true
}

// P13.4: if picks are fair for a window w, a task that is runnable from one pick on takes a step within w picks. With a lesser window one of them does not.
func TestFairSteps(t *testing.T) {
	draw := newDraw()
	found := map[int]int{}
	for i := range 300 {
		x := drawn(draw, i%maxTasks+1, []int{1, 2, 5, 20}[i%4])
		picks := drawnPicks(draw, len(x.Left), 20+draw.Intn(40))
		if i%3 == 0 {
			picks = mustRounds(t, x, 60)
		}
		window := leastWindow(t, x, picks)
		found[min(window, 4)]++
		for _, w := range []int{window, window + 1, window + 7} {
			if !mustFair(t, x, picks, w) || !stepsWithin(t, x, picks, w) {
				t.Errorf("the picks %v of %v are fair for %d, and not for %d", picks, x, window, w)
			}
		}
		if window > 1 && stepsWithin(t, x, picks, window-1) {
			t.Errorf("the picks %v of %v are fair for %d already", picks, x, window-1)
		}
	}
	for _, window := range []int{1, 2, 3, 4} {
		if found[window] < 8 {
			t.Errorf("the window %d was found only %d times", window, found[window])
		}
	}
}

// P13.4: a run in two parts is a run, wherever it is cut.
func TestRunInParts(t *testing.T) {
	draw := newDraw()
	for _, x := range shapes() {
		picks := drawnPicks(draw, len(x.Left), draw.Intn(80))
		want, stepped := mustRun(t, x, picks)
		for cut := range len(picks) + 1 {
			y, one := mustRun(t, x, picks[:cut])
			y, two := mustRun(t, y, picks[cut:])
			for _, at := range two {
				one = append(one, at+cut)
			}
			if !sameTasks(y, want) || !slices.Equal(one, stepped) {
				t.Errorf("cut at %d, the picks %v of %v give %v and %v", cut, picks, x, y, one)
			}
		}
	}
}

// P13.2, P13.4: one pick after the other is a run of them.
func TestPickAfterPick(t *testing.T) {
	draw := newDraw()
	for _, x := range shapes() {
		picks := drawnPicks(draw, len(x.Left), maxPicks)
		y := x
		var stepped []int
		for at, i := range picks {
			next, yes, e := sched.Pick(y, i)
			if e != api.OK {
				t.Fatalf("Pick(%v, %d): %v", y, i, e)
			}
			if yes {
				stepped = append(stepped, at)
			}
			y = next
		}
		checkRun(t, x, picks, y, stepped, api.OK)
	}
}

// P13.4: as long as a task is not done, some task is runnable; what a run leaves is valid.
func TestSomeRunnable(t *testing.T) {
	draw := newDraw()
	for _, x := range append(shapes(), small(4, 1)...) {
		for total(x) > 0 {
			l := mustRunnable(t, x)
			if len(l) == 0 {
				t.Fatalf("nothing is runnable of %v", x)
			}
			steps := total(x)
			x, _ = mustRun(t, x, append(drawnPicks(draw, len(x.Left), draw.Intn(40)), l[draw.Intn(len(l))]))
			checkTasks(t, "behind a run", x, api.OK)
			if total(x) >= steps {
				t.Fatalf("no step was taken, and %v is left", x)
			}
		}
		checkRunnable(t, x, nil, api.OK)
		checkRounds(t, x, maxPicks, nil, api.OK)
	}
}
