package sched_test

import (
	"math"
	"math/rand"
	"slices"
	"testing"

	"braid/api"
	"braid/sched"
)

const (
	maxTasks = 12
	maxLeft  = 60
	maxPicks = 300
)

func newDraw() *rand.Rand {
	return rand.New(rand.NewSource(113))
}

// example are the tasks of the chapter's example.
func example() api.Tasks {
	return api.Tasks{Left: []int{2, 1, 1}, After: []int{-1, -1, 0}}
}

// numbered are n numbers that are told by their indices.
func numbered(n int, number func(i int) int) []int {
	l := make([]int, n)
	for i := range l {
		l[i] = number(i)
	}
	return l
}

func always(n int) func(int) int {
	return func(int) int { return n }
}

// alone are n tasks with left steps each, behind none.
func alone(n, left int) api.Tasks {
	return api.Tasks{Left: numbered(n, always(left)), After: numbered(n, always(-1))}
}

// chain are n tasks with left steps each, each one behind the one before it.
func chain(n, left int) api.Tasks {
	return api.Tasks{Left: numbered(n, always(left)), After: numbered(n, func(i int) int { return i - 1 })}
}

// behindOne are n tasks with left steps each, all of them behind the first one.
func behindOne(n, left int) api.Tasks {
	return api.Tasks{Left: numbered(n, always(left)), After: numbered(n, func(i int) int { return min(i, 1) - 1 })}
}

// tree are n tasks with different numbers of steps, two behind each one.
func tree(n int) api.Tasks {
	return api.Tasks{Left: numbered(n, func(i int) int { return i * 5 % 7 }), After: numbered(n, func(i int) int { return (i+1)/2 - 1 })}
}

// drawn are n tasks with at most left steps each, each one behind any one before it, or none.
func drawn(draw *rand.Rand, n, left int) api.Tasks {
	return api.Tasks{Left: numbered(n, func(int) int { return draw.Intn(left + 1) }), After: numbered(n, func(i int) int { return draw.Intn(i+1) - 1 })}
}

// drawnPicks are n picks; some of them are one task again and again, so that others wait.
func drawnPicks(draw *rand.Rand, tasks, n int) []int {
	var picks []int
	for len(picks) < n {
		i, again := draw.Intn(tasks), 1
		if draw.Intn(4) == 0 {
			again += draw.Intn(6)
		}
		picks = append(picks, slices.Repeat([]int{i}, again)...)
	}
	return picks[:n]
}

// shapes are valid tasks, with as few and as many as may be, and with as few and as many steps.
func shapes() []api.Tasks {
	l := []api.Tasks{example(), tree(5), tree(maxTasks)}
	for _, n := range []int{1, 2, 3, 7, maxTasks - 1, maxTasks} {
		for _, left := range []int{0, 1, 2, 25, maxLeft - 1, maxLeft} {
			l = append(l, alone(n, left), chain(n, left), behindOne(n, left))
		}
	}
	draw := newDraw()
	for i := range 5 * maxTasks {
		l = append(l, drawn(draw, i%maxTasks+1, []int{1, 3, 8, 20, maxLeft}[i%5]))
	}
	return l
}

// small are all tasks up to a number, with at most left steps each.
func small(tasks, left int) []api.Tasks {
	all := []api.Tasks{{}}
	var valid []api.Tasks
	for i := range tasks {
		var longer []api.Tasks
		for _, t := range all {
			for steps := 0; steps <= left; steps++ {
				for before := -1; before < i; before++ {
					longer = append(longer, api.Tasks{Left: append(slices.Clone(t.Left), steps), After: append(slices.Clone(t.After), before)})
				}
			}
		}
		all = longer
		valid = append(valid, all...)
	}
	return valid
}

// allPicks are all lists of n picks.
func allPicks(tasks, n int) [][]int {
	all := [][]int{nil}
	for range n {
		var longer [][]int
		for _, l := range all {
			for i := range tasks {
				longer = append(longer, append(slices.Clone(l), i))
			}
		}
		all = longer
	}
	return all
}

// with is a copy of a list in which one element is another one.
func with(l []int, at, n int) []int {
	l = slices.Clone(l)
	l[at] = n
	return l
}

// named are tasks with what is to be known of them.
type named struct {
	name  string
	tasks api.Tasks
}

// notValid are tasks that are not valid.
func notValid() []named {
	l := []named{
		{"no tasks", api.Tasks{}},
		{"no tasks, empty", api.Tasks{Left: []int{}, After: []int{}}},
		{"no Left", api.Tasks{After: []int{-1}}},
		{"no After", api.Tasks{Left: []int{1}}},
	}
	for _, n := range []int{maxTasks + 1, maxTasks + 2, 2 * maxTasks, 256, 257, 256 + maxTasks} {
		l = append(l, named{"more tasks", alone(n, 1)}, named{"a longer chain", chain(n, 0)})
	}
	for _, n := range []int{1, 2, maxTasks - 1, maxTasks} {
		for _, t := range []api.Tasks{alone(n, 1), chain(n, maxLeft), behindOne(n, 0)} {
			l = append(l,
				named{"less in Left", api.Tasks{Left: t.Left[:n-1], After: t.After}},
				named{"less in After", api.Tasks{Left: t.Left, After: t.After[:n-1]}},
				named{"more in Left", api.Tasks{Left: append(slices.Clone(t.Left), 1), After: t.After}},
				named{"more in After", api.Tasks{Left: t.Left, After: append(slices.Clone(t.After), -1)}})
			for i := range n {
				for _, left := range []int{-1, -2, -maxLeft, math.MinInt, maxLeft + 1, maxLeft + 2, 256, 1 << 32, math.MaxInt} {
					l = append(l, named{"an element of Left", api.Tasks{Left: with(t.Left, i, left), After: t.After}})
				}
				for _, after := range []int{-2, -3, -maxTasks, math.MinInt, i, i + 1, n - 1, n, max(n, maxTasks), 255, 1 << 32, math.MaxInt} {
					if after < -1 || after >= i {
						l = append(l, named{"an element of After", api.Tasks{Left: t.Left, After: with(t.After, i, after)}})
					}
				}
			}
		}
	}
	return l
}

// strange are numbers that are not from 0 to a limit.
func strange(limit int) []int {
	return []int{-1, -2, -limit - 1, math.MinInt32, math.MinInt, math.MinInt + 1, limit + 1, limit + 2, 256 + limit, 1 << 32, 1<<32 + limit, math.MaxInt - 1, math.MaxInt}
}

func sameTasks(a, b api.Tasks) bool {
	return slices.Equal(a.Left, b.Left) && slices.Equal(a.After, b.After)
}

func total(t api.Tasks) int {
	sum := 0
	for _, n := range t.Left {
		sum += n
	}
	return sum
}

// The check functions fail unless a function returns what is wanted; with an error all else is zero.

func checkNew(t *testing.T, name string, left, after []int, want api.Tasks, wantError api.Errno) {
	t.Helper()
	if x, e := sched.New(left, after); e != wantError || !sameTasks(x, want) {
		t.Errorf("%s: New(%v, %v) = %v, %v, want %v, %v", name, left, after, x, e, want, wantError)
	}
}

func checkTasks(t *testing.T, name string, x api.Tasks, want api.Errno) {
	t.Helper()
	if e := sched.Check(x); e != want {
		t.Errorf("%s: Check(%v) = %v, want %v", name, x, e, want)
	}
}

func checkRunnable(t *testing.T, x api.Tasks, want []int, wantError api.Errno) {
	t.Helper()
	if l, e := sched.Runnable(x); e != wantError || !slices.Equal(l, want) {
		t.Errorf("Runnable(%v) = %v, %v, want %v, %v", x, l, e, want, wantError)
	}
}

func checkPick(t *testing.T, x api.Tasks, i int, want api.Tasks, stepped bool, wantError api.Errno) {
	t.Helper()
	if y, yes, e := sched.Pick(x, i); e != wantError || yes != stepped || !sameTasks(y, want) {
		t.Errorf("Pick(%v, %d) = %v, %v, %v, want %v, %v, %v", x, i, y, yes, e, want, stepped, wantError)
	}
}

func checkRun(t *testing.T, x api.Tasks, picks []int, want api.Tasks, stepped []int, wantError api.Errno) {
	t.Helper()
	if y, l, e := sched.Run(x, picks); e != wantError || !slices.Equal(l, stepped) || !sameTasks(y, want) {
		t.Errorf("Run(%v, %v) = %v, %v, %v, want %v, %v, %v", x, picks, y, l, e, want, stepped, wantError)
	}
}

func checkRounds(t *testing.T, x api.Tasks, n int, want []int, wantError api.Errno) {
	t.Helper()
	if l, e := sched.Rounds(x, n); e != wantError || !slices.Equal(l, want) {
		t.Errorf("Rounds(%v, %d) = %v, %v, want %v, %v", x, n, l, e, want, wantError)
	}
}

func checkFair(t *testing.T, x api.Tasks, picks []int, window int, want bool, wantError api.Errno) {
	t.Helper()
	if yes, e := sched.Fair(x, picks, window); e != wantError || yes != want {
		t.Errorf("Fair(%v, %v, %d) = %v, %v, want %v, %v", x, picks, window, yes, e, want, wantError)
	}
}

func mustRun(t *testing.T, x api.Tasks, picks []int) (api.Tasks, []int) {
	t.Helper()
	y, stepped, e := sched.Run(x, picks)
	if e != api.OK {
		t.Fatalf("Run(%v, %v): %v", x, picks, e)
	}
	return y, stepped
}

func mustRounds(t *testing.T, x api.Tasks, n int) []int {
	t.Helper()
	picks, e := sched.Rounds(x, n)
	if e != api.OK {
		t.Fatalf("Rounds(%v, %d): %v", x, n, e)
	}
	return picks
}

func mustRunnable(t *testing.T, x api.Tasks) []int {
	t.Helper()
	l, e := sched.Runnable(x)
	if e != api.OK {
		t.Fatalf("Runnable(%v): %v", x, e)
	}
	return l
}

func mustFair(t *testing.T, x api.Tasks, picks []int, window int) bool {
	t.Helper()
	yes, e := sched.Fair(x, picks, window)
	if e != api.OK {
		t.Fatalf("Fair(%v, %v, %d): %v", x, picks, window, e)
	}
	return yes
}
