package tests

import (
	"slices"
	"sync"
	"testing"

	"loop.example/g01146/impl"
)

// isForest takes away buttons with at most one neighbour until there are none: those that are left lead round.
func (m model) isForest() bool {
	left := power(m.n) - 1
	for again := true; again; {
		again = false
		for _, i := range buttonsOf(left) {
			if m.inner(i, left) <= 1 {
				left -= power(i)
				again = true
			}
		}
	}
	return left == 0
}

// parents climbs each tree from its least button.
func (m model) parents() []int {
	parents := filled(m.n, -1)
	var climb func(i int)
	climb = func(i int) {
		for j := range m.n {
			if m.near[i][j] && j != parents[i] {
				parents[j] = i
				climb(j)
			}
		}
	}
	for _, part := range m.parts() {
		climb(buttonsOf(part)[0])
	}
	return parents
}

// order has the buttons as they are reached, level by level, tree by tree.
func (m model) order() []int {
	var order []int
	parents := m.parents()
	for _, part := range m.parts() {
		for level := buttonsOf(part)[:1]; len(level) > 0; {
			order = append(order, level...)
			var next []int
			for _, i := range level {
				for j := range m.n {
					if parents[j] == i {
						next = append(next, j)
					}
				}
			}
			level = next
		}
	}
	return order
}

// matching follows the document's words.
func (m model) matching() [][]int {
	edges, parents, used := [][]int{}, m.parents(), map[int]bool{}
	order := m.order()
	slices.Reverse(order)
	for _, i := range order {
		if p := parents[i]; p != -1 && !used[i] && !used[p] {
			used[i], used[p] = true, true
			edges = append(edges, []int{min(i, p), max(i, p)})
		}
	}
	slices.SortFunc(edges, func(a, b []int) int { return 100*(a[0]-b[0]) + a[1] - b[1] })
	return edges
}

// mostApart returns the greatest number of edges of which no two have a common button, looking through all choices.
func mostApart(edges [][]int, used int) int {
	if len(edges) == 0 {
		return 0
	}
	most, e := mostApart(edges[1:], used), edges[0]
	if !isIn(e[0], used) && !isIn(e[1], used) {
		most = max(most, 1+mostApart(edges[1:], used+power(e[0])+power(e[1])))
	}
	return most
}

func (m model) withOwn(own bool) model {
	m.own = own
	return m
}

// renamed calls the button i names[i].
func (m model) renamed(names []int) model {
	r := modelOf(m.n, m.own)
	for _, e := range m.edges() {
		r.join(names[e[0]], names[e[1]])
	}
	return r
}

// someForest leaves out about one edge in so many, so that there are several roots; the names are mixed, so that parents may be greater than their children.
func someForest(n, share int, d *dice) model {
	m := modelOf(n, false)
	for i := 1; i < n; i++ {
		if d.below(share) > 0 {
			m.join(d.below(i), i)
		}
	}
	return m.renamed(d.shuffled(buttonsOf(power(n) - 1)))
}

func starModel(n, centre int, own bool) model {
	m := modelOf(n, own)
	for i := range n {
		if i != centre {
			m.join(i, centre)
		}
	}
	return m
}

// forestModels has all forests of up to 5 buttons, and of up to 16 those without edges, of two paths, stars around each kind of button, and forests of dice.
var forestModels = sync.OnceValue(func() []model {
	var all []model
	for _, m := range allModels(5) {
		if m.isForest() {
			all = append(all, m)
		}
	}
	d := &dice{state: 61}
	for n := 6; n <= 16; n++ {
		for _, own := range []bool{false, true} {
			path := gridModel(1, n, own, false)
			all = append(all, modelOf(n, own), path, path.renamed(d.shuffled(buttonsOf(power(n)-1))))
			all = append(all, starModel(n, 0, own), starModel(n, n-1, own), starModel(n, n/2, own), pairsModel(n, n/2).withOwn(own))
			for share := 2; share <= 12; share += 2 {
				all = append(all, someForest(n, share, d).withOwn(own))
			}
		}
	}
	return all
})

var forestTruths = sync.OnceValue(func() []truth {
	var all []truth
	for _, m := range forestModels() {
		all = append(all, truthOf(m))
	}
	return all
})

// roundModels gives graphs that are no forests: all of up to 5 buttons, circles alone, circles with trees on one button and others beside them, and full graphs.
func roundModels() []model {
	var all []model
	for _, m := range allModels(5) {
		if !m.isForest() {
			all = append(all, m)
		}
	}
	d := &dice{state: 62}
	for n := 3; n <= 16; n++ {
		for length := 3; length <= n; length++ {
			m := someForest(n-length+1, 3, d)
			m.n = n
			for k := range length {
				m.join(n-length+k, n-length+(k+1)%length)
			}
			all = append(all, m, m.renamed(d.shuffled(buttonsOf(power(n)-1))).withOwn(true))
		}
		all = append(all, fullModel(n, true), gridModel(1, n, false, true))
	}
	return all
}

// treeCalls has the functions that take a forest alone, and those that take lights, too.
func treeCalls() map[string]func(g impl.Graph, lights int) ([]int, bool) {
	return map[string]func(g impl.Graph, lights int) ([]int, bool){
		"ParentsOf":       func(g impl.Graph, _ int) ([]int, bool) { return impl.ParentsOf(g) },
		"LeavesOf":        func(g impl.Graph, _ int) ([]int, bool) { return asList(impl.LeavesOf(g)) },
		"NullityByStates": func(g impl.Graph, _ int) ([]int, bool) { return asList(impl.NullityByStates(g)) },
		"MatchingSize":    func(g impl.Graph, _ int) ([]int, bool) { return asList(impl.MatchingSize(g)) },
		"CountByStates":   func(g impl.Graph, lights int) ([]int, bool) { return asList(impl.CountByStates(g, lights)) },
		"LeastByStates":   func(g impl.Graph, lights int) ([]int, bool) { return asList(impl.LeastByStates(g, lights)) },
	}
}

// wantNoForest requires all functions that take a forest to refuse a graph.
func wantNoForest(t *testing.T, what string, g impl.Graph, lights int) {
	t.Helper()
	for name, call := range treeCalls() {
		list, ok := call(g, lights)
		wantNoList(t, name+" "+what, list, ok)
	}
	edges, ok := impl.MatchingOf(g)
	wantNoEdges(t, "MatchingOf "+what, edges, ok)
}
