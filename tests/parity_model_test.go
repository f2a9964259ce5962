package tests

import (
	"fmt"
	"sync"

	"loop.example/g01146/impl"
)

// graphs returns the graph with and without Own, which does not matter for chapter 5.
func (m model) graphs() []impl.Graph {
	without, with := m, m
	without.own, with.own = false, true
	return []impl.Graph{without.graph(), with.graph()}
}

// inner counts the neighbours of a button in a set.
func (m model) inner(i, set int) int {
	count := 0
	for j := range m.n {
		if m.near[i][j] && isIn(j, set) {
			count++
		}
	}
	return count
}

func isIn(j, set int) bool { return set&(1<<j) != 0 }

// leaves reports whether 2 leaves the given remainder of all inner degrees of a set.
func (m model) leaves(set, remainder int) bool {
	for i := range m.n {
		if isIn(i, set) && m.inner(i, set)%2 != remainder {
			return false
		}
	}
	return true
}

func (m model) dominates(set int) bool {
	for i := range m.n {
		count := m.inner(i, set)
		if isIn(i, set) {
			count++
		}
		if count%2 == 0 {
			return false
		}
	}
	return true
}

// parity has all sets that chapter 5 tells of: an account that looks through the sets of buttons and makes no basis.
type parity struct {
	model
	even, evenOdd, dominating []int
}

func parityOf(m model) parity {
	p := parity{model: m}
	all := power(m.n) - 1
	for set := range all + 1 {
		if m.leaves(set, 0) && m.leaves(all-set, 0) {
			p.even = append(p.even, set)
		}
		if m.leaves(set, 0) && m.leaves(all-set, 1) {
			p.evenOdd = append(p.evenOdd, set)
		}
		if m.dominates(set) {
			p.dominating = append(p.dominating, set)
		}
	}
	return p
}

// pairsModel has n buttons, of which the first ones are neighbours in pairs.
func pairsModel(n, pairs int) model {
	m := modelOf(n, false)
	for k := range pairs {
		m.join(2*k, 2*k+1)
	}
	return m
}

// parities has graphs without edges and with all of them, grids, circles and tori, and graphs of several parts.
var parities = sync.OnceValue(func() []parity {
	models := someModels()
	for rows := 1; rows <= 4; rows++ {
		for columns := 1; rows*columns <= 16; columns++ {
			models = append(models, gridModel(rows, columns, false, false), gridModel(rows, columns, false, true))
		}
	}
	for n := 1; n <= 16; n++ {
		models = append(models, modelOf(n, false), fullModel(n, false), pairsModel(n, n/2), pairsModel(n, n/4))
	}
	var all []parity
	for _, m := range models {
		all = append(all, parityOf(m))
	}
	return all
})

// parts goes from each button to its neighbours, and on from these.
func (m model) parts() []int {
	var parts []int
	var seen [16]bool
	for i := range m.n {
		if seen[i] {
			continue
		}
		seen[i] = true
		reached, part := []int{i}, 0
		for k := 0; k < len(reached); k++ {
			part += power(reached[k])
			for j := range m.n {
				if m.near[reached[k]][j] && !seen[j] {
					seen[j] = true
					reached = append(reached, j)
				}
			}
		}
		parts = append(parts, part)
	}
	return parts
}

func (m model) cut(set int) [][]int {
	cut := [][]int{}
	for _, e := range m.edges() {
		if isIn(e[0], set) != isIn(e[1], set) {
			cut = append(cut, e)
		}
	}
	return cut
}

func isEvenAtAll(edges [][]int) bool {
	var met [16]int
	for _, e := range edges {
		met[e[0]]++
		met[e[1]]++
	}
	for _, times := range met {
		if times%2 == 1 {
			return false
		}
	}
	return true
}

// evenCuts looks through the cuts of all sets.
func (m model) evenCuts() int {
	found := map[string]bool{}
	for set := range power(m.n) {
		if cut := m.cut(set); isEvenAtAll(cut) {
			found[fmt.Sprint(cut)] = true
		}
	}
	return len(found)
}

// evenEdgeSets counts, edge by edge, how many sets of edges meet oddly at each set of buttons, for at most 62 edges.
func (m model) evenEdgeSets() int {
	counts := make([]int, power(m.n))
	counts[0] = 1
	for _, e := range m.edges() {
		ends, next := power(e[0])+power(e[1]), make([]int, len(counts))
		for met := range counts {
			next[met] = counts[met] + counts[met^ends]
		}
		counts = next
	}
	return counts[0]
}
