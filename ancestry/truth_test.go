package ancestry_test

import (
	"slices"

	"braid/api"
)

// truth is what the chapter says of operations that come in any order, each of them with its predecessors among them, worked out in another way: before[i][j] says whether i is an ancestor of j.
type truth struct {
	l      []node
	before [][]bool
}

// truthOf puts steps together to ways, by one operation after the other in their midst.
func truthOf(l []node) truth {
	w := truth{l: l}
	for _, a := range l {
		var row []bool
		for _, b := range l {
			row = append(row, slices.Contains(b.o.Preds, a.id))
		}
		w.before = append(w.before, row)
	}
	for k := range l {
		for i := range l {
			for j := range l {
				w.before[i][j] = w.before[i][j] || w.before[i][k] && w.before[k][j]
			}
		}
	}
	return w
}

// where reports at which index an id is, or -1.
func (w truth) where(id api.ID) int {
	return slices.IndexFunc(w.l, func(n node) bool { return n.id == id })
}

// ancestors are the operations before the one at an index.
func (w truth) ancestors(j int) []node {
	var l []node
	for i, n := range w.l {
		if w.before[i][j] {
			l = append(l, n)
		}
	}
	return l
}

// depth is the number of steps on the longest way to the operation at an index: the greatest number of ancestors each of which is one of the next.
func (w truth) depth(j int) int {
	depth := make([]int, len(w.l))
	for range w.l {
		for i := range w.l {
			for k := range w.l {
				if w.before[i][k] {
					depth[k] = max(depth[k], depth[i]+1)
				}
			}
		}
	}
	return depth[j]
}

// heads are the operations that are before none.
func (w truth) heads() []node {
	var l []node
	for i, n := range w.l {
		if !slices.Contains(w.before[i], true) {
			l = append(l, n)
		}
	}
	return l
}

// below are the operations with ids of a list, and their ancestors.
func (w truth) below(ids []api.ID) []node {
	var l []node
	for i, n := range w.l {
		is := slices.Contains(ids, n.id)
		for _, id := range ids {
			is = is || w.before[i][w.where(id)]
		}
		if is {
			l = append(l, n)
		}
	}
	return l
}

// order is the canonical order. The one that is taken next has the least id of those whose ancestors were all taken: as predecessors are only taken behind theirs, these are the same ones as those whose predecessors were.
func (w truth) order() []api.ID {
	var taken []api.ID
	for range w.l {
		var can []api.ID
		for j, n := range w.l {
			rest := slices.DeleteFunc(idsOf(w.ancestors(j)), func(id api.ID) bool { return slices.Contains(taken, id) })
			if len(rest) == 0 && !slices.Contains(taken, n.id) {
				can = append(can, n.id)
			}
		}
		taken = append(taken, slices.MinFunc(can, compare))
	}
	return taken
}

// missing are the ids of a list that no operation has.
func (w truth) missing(ids []api.ID) []api.ID {
	found := map[api.ID]bool{}
	for _, id := range ids {
		if w.where(id) < 0 {
			found[id] = true
		}
	}
	var l []api.ID
	for id := range found {
		l = append(l, id)
	}
	return sorted(l)
}
