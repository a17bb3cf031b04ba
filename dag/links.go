package dag

import (
	"braid/api"
	"braid/digest"
)

// checkLinks returns the errors of Check that are about ids alone, of a graph with as many of them as operations: ErrOrder, ErrOpen and ErrState. It takes the ids as they are: no operations are known whose digests make a cycle.
func checkLinks(g api.Graph) api.Errno {
	for i := range len(g.IDs) - 1 {
		if digest.Cmp(g.IDs[i], g.IDs[i+1]) >= 0 {
			return api.ErrOrder
		}
	}
	for _, o := range g.Ops {
		if !hasAll(g.IDs, o.Preds) {
			return api.ErrOpen
		}
	}
	if hasCycle(links(g)) {
		return api.ErrState
	}
	return api.OK
}

// links returns for each operation where its predecessors are in the graph.
func links(g api.Graph) [][]int {
	l := make([][]int, len(g.Ops))
	for i, o := range g.Ops {
		for _, id := range o.Preds {
			at, _ := place(g.IDs, id)
			l[i] = append(l[i], at)
		}
	}
	return l
}

// hasCycle reports whether something is before itself: then not all can be taken, each one after those before it.
func hasCycle(before [][]int) bool {
	taken := make([]bool, len(before))
	for left := len(before); left > 0; {
		n := take(before, taken)
		if n == 0 {
			return true
		}
		left -= n
	}
	return false
}

// take marks what was not taken and has only taken ones before it, and returns how many it has marked.
func take(before [][]int, taken []bool) int {
	n := 0
	for i := range before {
		if !taken[i] && allTaken(before[i], taken) {
			taken[i] = true
			n++
		}
	}
	return n
}

func allTaken(l []int, taken []bool) bool {
	for _, i := range l {
		if !taken[i] {
			return false
		}
	}
	return true
}
