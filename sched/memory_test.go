package sched_test

import (
	"slices"
	"testing"

	"braid/api"
	"braid/sched"
)

// call is a call with tasks and a list of picks; it returns all lists that the call has returned.
type call func(x api.Tasks, picks []int) [][]int

func listsOf(x api.Tasks) [][]int {
	return [][]int{x.Left, x.After}
}

// calls are the calls of all functions.
func calls() map[string]call {
	return map[string]call{
		"New": func(x api.Tasks, picks []int) [][]int {
			y, _ := sched.New(x.Left, x.After)
			return listsOf(y)
		},
		"Check": func(x api.Tasks, picks []int) [][]int {
			sched.Check(x)
			return nil
		},
		"Runnable": func(x api.Tasks, picks []int) [][]int {
			l, _ := sched.Runnable(x)
			return [][]int{l}
		},
		"Pick": func(x api.Tasks, picks []int) [][]int {
			y, _, _ := sched.Pick(x, len(picks)%(len(x.Left)+1))
			return listsOf(y)
		},
		"Run": func(x api.Tasks, picks []int) [][]int {
			y, stepped, _ := sched.Run(x, picks)
			return append(listsOf(y), stepped)
		},
		"Rounds": func(x api.Tasks, picks []int) [][]int {
			l, _ := sched.Rounds(x, len(picks))
			return [][]int{l}
		},
		"Fair": func(x api.Tasks, picks []int) [][]int {
			sched.Fair(x, picks, 3)
			return nil
		},
	}
}

// roomy is a list that stands in more memory than it shows: other numbers are between its length and its capacity.
func roomy(l []int) []int {
	return slices.Concat(l, []int{0, 1, -1, 7})[:len(l)]
}

func whole(l []int) []int {
	return l[:cap(l)]
}

// copies are lists with the same numbers, up to the capacity of each one.
func copies(lists [][]int) [][]int {
	var l [][]int
	for _, some := range lists {
		l = append(l, slices.Clone(whole(some)))
	}
	return l
}

func sameLists(a, b [][]int) bool {
	return slices.EqualFunc(a, b, func(l, m []int) bool { return slices.Equal(l, m) })
}

// spoil overwrites lists up to their capacities.
func spoil(lists [][]int) {
	for i, l := range lists {
		for j := range whole(l) {
			whole(l)[j] = 1000 + i
		}
	}
}

// isApart reports whether no two lists share memory; it overwrites them.
func isApart(lists [][]int) bool {
	spoil(lists)
	for i, l := range lists {
		if slices.ContainsFunc(whole(l), func(n int) bool { return n != 1000+i }) {
			return false
		}
	}
	return true
}

func checkMemory(t *testing.T, name string, call call, x api.Tasks, picks []int) {
	t.Helper()
	x = api.Tasks{Left: roomy(x.Left), After: roomy(x.After)}
	arguments := append(listsOf(x), roomy(picks))
	before := copies(arguments)
	one, two := call(x, arguments[2]), call(x, arguments[2])
	if !sameLists(copies(arguments), before) {
		t.Errorf("%s of %v with %v: an argument was changed", name, x, picks)
	}
	want := copies(one)
	spoil(two)
	if !sameLists(copies(arguments), before) || !sameLists(copies(one), want) {
		t.Errorf("%s of %v with %v: a result shares memory with another call's, or with an argument", name, x, picks)
	}
	spoil(arguments)
	if !sameLists(copies(one), want) {
		t.Errorf("%s of %v with %v: a result was changed with an argument", name, x, picks)
	}
	if !isApart(one) {
		t.Errorf("%s of %v with %v: lists of the result share memory", name, x, picks)
	}
}

// R2: arguments stay as they were, up to the capacity of each list; results share no memory with them or with each other, and nothing is kept from call to call.
func TestMemory(t *testing.T) {
	draw := newDraw()
	for _, x := range shapes() {
		for _, n := range []int{0, 1, 2, 9, 40, maxPicks} {
			for name, call := range calls() {
				checkMemory(t, name, call, x, drawnPicks(draw, len(x.Left), n))
			}
		}
	}
}

// R2: tasks that are not valid, and lists of picks that are refused, stay as they were too.
func TestRefusedMemory(t *testing.T) {
	for name, call := range calls() {
		for _, bad := range notValid() {
			checkMemory(t, name, call, bad.tasks, []int{0, 0, 1})
		}
		checkMemory(t, name, call, example(), make([]int, maxPicks+1))
		checkMemory(t, name, call, example(), []int{0, 1, 0, 2, 3})
		checkMemory(t, name, call, example(), []int{0, 1, 0, 2, -1})
	}
}

// R2: where the lists of arguments share memory, those of results do not, and no list is taken for another one.
func TestSharedArguments(t *testing.T) {
	memory := []int{-1, 0, 1, 2, 1, 0, 1}
	want := slices.Clone(memory)
	x := api.Tasks{Left: memory[1:5], After: memory[:4]} // 0, 1, 2, 1 steps, and behind -1, 0, 1, 2
	picks := memory[2:6]                                 // 1, 2, 1, 0
	behind := api.Tasks{Left: []int{0, 0, 1, 1}, After: []int{-1, 0, 1, 2}}
	checkNew(t, "shared", x.Left, x.After, api.Tasks{Left: []int{0, 1, 2, 1}, After: []int{-1, 0, 1, 2}}, api.OK)
	checkRunnable(t, x, []int{1}, api.OK)
	checkPick(t, x, 1, api.Tasks{Left: []int{0, 0, 2, 1}, After: []int{-1, 0, 1, 2}}, true, api.OK)
	checkRun(t, x, picks, behind, []int{0, 1}, api.OK)
	checkRounds(t, x, 9, []int{1, 2, 2, 3}, api.OK)
	checkFair(t, x, picks, 2, false, api.OK)
	checkFair(t, x, picks, 3, true, api.OK)
	for name, call := range calls() {
		result := call(x, picks)
		if !isApart(result) || !slices.Equal(memory, want) {
			t.Errorf("%s: an argument was changed, or lists of the result share memory", name)
		}
	}
}

// R5: each call gives the same as before.
func TestAgain(t *testing.T) {
	draw := newDraw()
	for _, x := range shapes() {
		picks := drawnPicks(draw, len(x.Left), 50)
		first := map[string][][]int{}
		for name, call := range calls() {
			first[name] = call(x, picks)
		}
		for name, call := range calls() {
			if !sameLists(call(x, picks), first[name]) {
				t.Errorf("%s of %v with %v is not the same again", name, x, picks)
			}
		}
	}
}
