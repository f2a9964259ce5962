package tests

import (
	"fmt"
	"math"
	"slices"
	"testing"

	"loop.example/g01146/impl"
)

// Promise 6, forests and their parents.

func TestTreeExamples(t *testing.T) {
	star := starModel(4, 0, true).graph()
	x, ok := impl.NullityByStates(star)
	wantNumber(t, "nullity of the star", x, ok, 1)
	x, ok = impl.LeastByStates(star, 15)
	wantNumber(t, "least number for all lights", x, ok, 1)
	without := starModel(4, 0, false).graph()
	x, ok = impl.NullityByStates(without)
	wantNumber(t, "nullity without Own", x, ok, 2)
	edges, ok := impl.MatchingOf(without)
	wantEdges(t, "matching of the star", edges, ok, [][]int{{0, 3}})
	x, ok = impl.LeavesOf(modelOf(3, true, [2]int{0, 1}, [2]int{0, 2}).graph())
	wantNumber(t, "leaves of two levels", x, ok, 6)
}

func TestIsForest(t *testing.T) {
	d := &dice{state: 63}
	models := append(allModels(5), bigModels()...)
	for range 2000 {
		models = append(models, someModel(1+d.below(16), 1+d.below(20), d))
	}
	for _, m := range models {
		answer, ok := impl.IsForest(m.graph())
		wantAnswer(t, m.text(), answer, ok, m.isForest())
	}
	for _, m := range forestModels() {
		answer, ok := impl.IsForest(m.graph())
		wantAnswer(t, m.text(), answer, ok, true)
		// One edge more joins two trees, or leads round.
		if i, j := d.below(m.n), d.below(m.n); i != j {
			m.join(i, j)
			answer, ok = impl.IsForest(m.graph())
			wantAnswer(t, m.text()+" with one edge more", answer, ok, m.isForest())
		}
	}
	for _, m := range roundModels() {
		answer, ok := impl.IsForest(m.graph())
		wantAnswer(t, m.text(), answer, ok, false)
	}
}

func TestIsForestExamples(t *testing.T) {
	for text, want := range map[string]bool{
		"1:-": true, "1+:-": true, "16:-": true, "2:0-1": true, "3:0-1,1-2": true, "3:0-1,0-2,1-2": false, "3+:0-1,0-2,1-2": false, "4:0-1,0-3,1-2,2-3": false,
		"4:0-1,0-2,1-2": false, "4:1-2,1-3,2-3": false, "6:0-1,2-3,4-5": true, "7+:0-6,1-6,2-6,3-6": true, "6:0-1,0-2,1-2,3-4": false, "6:0-5,1-4,2-3": true,
	} {
		g, _ := impl.ParseGraph(text)
		answer, ok := impl.IsForest(g)
		wantAnswer(t, text, answer, ok, want)
	}
}

func TestParentsOf(t *testing.T) {
	for _, m := range forestModels() {
		list, ok := impl.ParentsOf(m.graph())
		wantList(t, m.text(), list, ok, m.parents())
		for i, p := range list {
			if p == -1 {
				continue
			}
			if p < 0 || p >= m.n || !m.near[i][p] {
				t.Errorf("%s: %d is no neighbour of %d", m.text(), p, i)
			}
		}
	}
}

func TestParentsOfExamples(t *testing.T) {
	for text, want := range map[string][]int{
		"1:-": {-1}, "3:-": {-1, -1, -1}, "3+:0-1,1-2": {-1, 0, 1}, "3:0-2,1-2": {-1, 2, 0}, "3:0-1,0-2": {-1, 0, 0}, "4:0-3,1-2": {-1, -1, 1, 0},
		"5:1-4,2-4,3-4": {-1, -1, 4, 4, 1}, "6:0-5,1-4,2-3,4-5": {-1, 4, -1, 2, 5, 0}, "4:0-3,1-2,2-3": {-1, 2, 3, 0},
	} {
		g, _ := impl.ParseGraph(text)
		list, ok := impl.ParentsOf(g)
		wantList(t, text, list, ok, want)
	}
}

// isParents follows the document: each parent is less than its button, or -1.
func isParents(parents []int) bool {
	for i, p := range parents {
		if p < -1 || p >= i {
			return false
		}
	}
	return len(parents) >= 1 && len(parents) <= 16
}

func wantFromParents(t *testing.T, parents []int, own bool) {
	t.Helper()
	g, ok := impl.FromParents(parents, own)
	if !isParents(parents) {
		wantNoGraph(t, fmt.Sprint("parents ", parents), g, ok)
		return
	}
	m := modelOf(len(parents), own)
	for i, p := range parents {
		if p != -1 {
			m.join(i, p)
		}
	}
	wantModel(t, fmt.Sprint("parents ", parents), g, ok, m)
	list, ok := impl.ParentsOf(g)
	wantList(t, fmt.Sprint("parents again of ", parents), list, ok, parents)
}

// TestFromParents has all lists of up to 4 numbers in -2..4, and lists of dice of up to 18.
func TestFromParents(t *testing.T) {
	for length := range 5 {
		for choice := range int(math.Pow(7, float64(length))) {
			var parents []int
			for range length {
				parents = append(parents, choice%7-2)
				choice /= 7
			}
			wantFromParents(t, parents, false)
			wantFromParents(t, parents, true)
		}
	}
	d := &dice{state: 64}
	for range 3000 {
		var parents []int
		for i := range d.below(19) {
			parents = append(parents, d.below(i+1)-1)
		}
		wantFromParents(t, parents, d.below(2) == 0)
	}
}

func TestFromParentsInvalid(t *testing.T) {
	for _, p := range []int{-2, -3, -64, math.MinInt, math.MaxInt, power(32), power(62), 5, 15, 16, 17, 63, 64} {
		for n := 1; n <= 16; n++ {
			for place := range n {
				parents := filled(n, -1)
				parents[place] = p
				wantFromParents(t, parents, true)
			}
		}
	}
	for i := range 16 {
		parents := filled(16, -1)
		parents[i] = i
		g, ok := impl.FromParents(parents, false)
		wantNoGraph(t, "a button that is its own parent", g, ok)
	}
	for _, parents := range [][]int{nil, {}, filled(17, -1), append([]int{-1}, filled(16, 0)...), filled(300, -1), {0}, {1, -1}, {-1, 1}, {-1, 2, -1}, {1, 0}} {
		for _, own := range []bool{false, true} {
			g, ok := impl.FromParents(parents, own)
			wantNoGraph(t, fmt.Sprint("parents ", parents), g, ok)
		}
	}
	g, ok := impl.FromParents(append([]int{-1}, filled(15, 0)...), true)
	wantModel(t, "16 parents", g, ok, starModel(16, 0, true))
}

func TestStarGraph(t *testing.T) {
	for _, own := range []bool{false, true} {
		for n := 1; n <= 16; n++ {
			g, ok := impl.StarGraph(n, own)
			wantModel(t, fmt.Sprint("star of ", n), g, ok, starModel(n, 0, own))
		}
		for _, n := range append(notBelow(17), 0, 18, 63, 64, 65) {
			g, ok := impl.StarGraph(n, own)
			wantNoGraph(t, fmt.Sprint("star of ", n), g, ok)
		}
	}
}

func TestBinaryTree(t *testing.T) {
	for _, own := range []bool{false, true} {
		for levels := 1; levels <= 4; levels++ {
			m := modelOf(power(levels)-1, own)
			for i := range m.n {
				for _, j := range []int{2*i + 1, 2*i + 2} {
					if j < m.n {
						m.join(i, j)
					}
				}
			}
			g, ok := impl.BinaryTree(levels, own)
			wantModel(t, fmt.Sprint(levels, " levels"), g, ok, m)
		}
		for _, levels := range append(notBelow(5), 0, 15, 16, 62, 63, 64, 65) {
			g, ok := impl.BinaryTree(levels, own)
			wantNoGraph(t, fmt.Sprint(levels, " levels"), g, ok)
		}
	}
}

func TestNamedTreeTexts(t *testing.T) {
	for text, build := range map[string]func() (impl.Graph, bool){
		"1+:-":                      func() (impl.Graph, bool) { return impl.StarGraph(1, true) },
		"2:0-1":                     func() (impl.Graph, bool) { return impl.StarGraph(2, false) },
		"4+:0-1,0-2,0-3":            func() (impl.Graph, bool) { return impl.StarGraph(4, true) },
		"1:-":                       func() (impl.Graph, bool) { return impl.BinaryTree(1, false) },
		"3+:0-1,0-2":                func() (impl.Graph, bool) { return impl.BinaryTree(2, true) },
		"7:0-1,0-2,1-3,1-4,2-5,2-6": func() (impl.Graph, bool) { return impl.BinaryTree(3, false) },
		"5:0-1,1-2,3-4":             func() (impl.Graph, bool) { return impl.FromParents([]int{-1, 0, 1, -1, 3}, false) },
		"3+:-":                      func() (impl.Graph, bool) { return impl.FromParents([]int{-1, -1, -1}, true) },
	} {
		g, ok := build()
		if s, fine := impl.GraphText(g); !ok || !fine || s != text {
			t.Errorf("%q %v %v, want %q", s, ok, fine, text)
		}
	}
}

func TestLeavesOf(t *testing.T) {
	for _, m := range forestModels() {
		want := m.sum(func(i int) bool { return m.inner(i, power(m.n)-1) == 1 })
		x, ok := impl.LeavesOf(m.graph())
		wantNumber(t, m.text(), x, ok, want)
	}
	for text, want := range map[string]int{"1:-": 0, "16+:-": 0, "2:0-1": 3, "3+:0-1,1-2": 5, "3:0-1": 3, "4:0-3,1-3,2-3": 7, "16:0-15": 32769} {
		g, _ := impl.ParseGraph(text)
		x, ok := impl.LeavesOf(g)
		wantNumber(t, text, x, ok, want)
	}
}

// TestTreesOfRoundGraphs has graphs that lead round: IsForest tells so, and all others refuse them.
func TestTreesOfRoundGraphs(t *testing.T) {
	for _, m := range roundModels() {
		for _, lights := range []int{0, 1, power(m.n) - 1} {
			wantNoForest(t, fmt.Sprint(m.text(), " ", lights), m.graph(), lights)
		}
	}
}

func TestTreesOfInvalidGraphs(t *testing.T) {
	for _, g := range badGraphs() {
		answer, ok := impl.IsForest(g)
		wantNoAnswer(t, fmt.Sprint("IsForest ", g), answer, ok)
		for _, lights := range []int{0, 1, 3, -1, 65535, 65536} {
			wantNoForest(t, fmt.Sprint(g, " ", lights), g, lights)
		}
	}
}

func TestTreesWithInvalidSets(t *testing.T) {
	for _, m := range []model{modelOf(1, true), modelOf(1, false), modelOf(3, true, [2]int{0, 1}), modelOf(16, false, [2]int{14, 15}), starModel(16, 0, true), modelOf(8, true)} {
		for _, lights := range notBelow(power(m.n)) {
			for _, name := range []string{"CountByStates", "LeastByStates"} {
				list, ok := treeCalls()[name](m.graph(), lights)
				wantNoList(t, fmt.Sprint(name, " ", m.text(), " ", lights), list, ok)
			}
		}
	}
}

// TestTreeModel holds the account itself against the document: parents lead to the least button of each tree.
func TestTreeModel(t *testing.T) {
	for _, m := range forestModels() {
		parents, parts := m.parents(), m.parts()
		if len(m.edges()) != m.n-len(parts) || !slices.Equal(slices.Sorted(slices.Values(m.order())), buttonsOf(power(m.n)-1)) {
			t.Errorf("%s is not reached by %v", m.text(), m.order())
		}
		for _, part := range parts {
			for _, i := range buttonsOf(part) {
				for steps := 0; parents[i] != -1 && steps < 16; steps++ {
					i = parents[i]
				}
				if i != buttonsOf(part)[0] {
					t.Errorf("%s: %v lead to %d", m.text(), parents, i)
				}
			}
		}
	}
}
