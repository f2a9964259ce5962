package tests

import (
	"fmt"
	"math"
	"slices"
	"strings"
	"testing"

	"loop.example/g01146/impl"
)

// model tells a graph by a table of neighbours: an account of chapter 1 that shares no code with the program.
type model struct {
	n    int
	own  bool
	near [16][16]bool
}

func modelOf(n int, own bool, pairs ...[2]int) model {
	m := model{n: n, own: own}
	for _, p := range pairs {
		m.join(p[0], p[1])
	}
	return m
}

func fullModel(n int, own bool) model {
	m := modelOf(n, own)
	for i := range n {
		for j := range i {
			m.join(i, j)
		}
	}
	return m
}

func (m *model) join(i, j int) {
	m.near[i][j], m.near[j][i] = true, true
}

func (m model) graph() impl.Graph {
	g := impl.Graph{Own: m.own}
	for i := range m.n {
		g.Near = append(g.Near, m.sum(func(j int) bool { return m.near[i][j] }))
	}
	return g
}

// sum tells a set of buttons as a number.
func (m model) sum(in func(j int) bool) int {
	s := 0
	for j := m.n - 1; j >= 0; j-- {
		s *= 2
		if in(j) {
			s++
		}
	}
	return s
}

func (m model) edges() [][]int {
	edges := [][]int{}
	for i := range m.n {
		for j := range m.n {
			if i < j && m.near[i][j] {
				edges = append(edges, []int{i, j})
			}
		}
	}
	return edges
}

func (m model) text() string {
	sign, list := "", "-"
	if m.own {
		sign = "+"
	}
	words := []string{}
	for _, e := range m.edges() {
		words = append(words, fmt.Sprintf("%d-%d", e[0], e[1]))
	}
	if len(words) > 0 {
		list = strings.Join(words, ",")
	}
	return fmt.Sprintf("%d%s:%s", m.n, sign, list)
}

func (m model) toggles(i, j int) bool {
	return m.near[i][j] || i == j && m.own
}

// press counts for each light how often it is toggled.
func (m model) press(lights int, word ...int) int {
	return m.sum(func(j int) bool {
		times := lights / power(j) % 2
		for _, i := range word {
			if m.toggles(i, j) {
				times++
			}
		}
		return times%2 == 1
	})
}

func power(k int) int {
	p := 1
	for range k {
		p *= 2
	}
	return p
}

func buttonsOf(set int) []int {
	word := []int{}
	for i := 0; set > 0; i++ {
		if set%2 == 1 {
			word = append(word, i)
		}
		set /= 2
	}
	return word
}

// allModels gives all graphs of 1..most buttons, with and without Own.
func allModels(most int) []model {
	var all []model
	for n := 1; n <= most; n++ {
		var places [][2]int
		for i := range n {
			for j := range i {
				places = append(places, [2]int{j, i})
			}
		}
		for choice := range power(len(places)) {
			var pairs [][2]int
			for _, k := range buttonsOf(choice) {
				pairs = append(pairs, places[k])
			}
			all = append(all, modelOf(n, false, pairs...), modelOf(n, true, pairs...))
		}
	}
	return all
}

// dice is a row of numbers that is the same in each run.
type dice struct{ state uint64 }

func (d *dice) below(n int) int {
	d.state = d.state*6364136223846793005 + 1442695040888963407
	return int(d.state >> 33 % uint64(n))
}

func (d *dice) word(n, length int) []int {
	word := make([]int, length)
	for k := range word {
		word[k] = d.below(n)
	}
	return word
}

func (d *dice) shuffled(word []int) []int {
	w := slices.Clone(word)
	for k := len(w) - 1; k > 0; k-- {
		j := d.below(k + 1)
		w[k], w[j] = w[j], w[k]
	}
	return w
}

// bigModels gives graphs of 5..16 buttons: without edges, with all, and with some of them.
func bigModels() []model {
	d := &dice{state: 1}
	var all []model
	for n := 5; n <= impl.MaxButtons; n++ {
		for share := range 5 {
			for _, own := range []bool{false, true} {
				m := modelOf(n, own)
				for i := range n {
					for j := range i {
						if d.below(4) < share {
							m.join(i, j)
						}
					}
				}
				all = append(all, m)
			}
		}
	}
	return all
}

func someModels() []model { return append(allModels(4), bigModels()...) }

func filled(n, value int) []int {
	list := make([]int, n)
	for i := range list {
		list[i] = value
	}
	return list
}

// badGraphs gives values that are no graphs, each for one reason.
func badGraphs() []impl.Graph {
	full := fullModel(16, false)
	upper, lower, self := full.graph().Near, full.graph().Near, full.graph().Near
	upper[14] -= power(15)
	lower[15] -= power(14)
	self[15] += power(15)
	lists := [][]int{
		nil, {}, filled(17, 0), filled(64, 0), filled(300, 0),
		{1}, {2}, {-1}, {math.MinInt}, {math.MaxInt}, {power(62)}, {power(16)},
		{1, 0}, {0, 2}, {3, 3}, {2, 0}, {0, 1}, {2, -1}, {6, 1}, {2, 5}, {-2, 1},
		{2, 1, 4}, {2, 5, 0}, {2, 1, 1}, {6, 5, 0}, {6, 1, 3},
		upper, lower, self,
		append(filled(15, 0), power(16)), append([]int{power(16)}, filled(15, 0)...), append([]int{math.MinInt}, filled(15, 0)...),
	}
	var bad []impl.Graph
	for _, near := range lists {
		bad = append(bad, impl.Graph{Near: near}, impl.Graph{Near: slices.Clone(near), Own: true})
	}
	return bad
}

// notBelow gives numbers out of 0..n - 1.
func notBelow(n int) []int {
	return []int{-1, -2, n, n + 1, n + 64, -n - 1, math.MaxInt, math.MinInt, power(32), power(62), -power(32)}
}

func isModel(g impl.Graph, m model) bool {
	return g.Own == m.own && slices.Equal(g.Near, m.graph().Near)
}

func wantModel(t *testing.T, what string, g impl.Graph, ok bool, m model) {
	t.Helper()
	if !ok || !isModel(g, m) {
		t.Errorf("%s: %v %v, want %v true", what, g, ok, m.graph())
	}
}

func wantNoGraph(t *testing.T, what string, g impl.Graph, ok bool) {
	t.Helper()
	if ok || g.Own || len(g.Near) > 0 {
		t.Errorf("%s: %v %v, want no graph", what, g, ok)
	}
}

func wantNumber(t *testing.T, what string, x int, ok bool, want int) {
	t.Helper()
	if !ok || x != want {
		t.Errorf("%s: %d %v, want %d true", what, x, ok, want)
	}
}

func wantNoNumber(t *testing.T, what string, x int, ok bool) {
	t.Helper()
	if ok || x != 0 {
		t.Errorf("%s: %d %v, want 0 false", what, x, ok)
	}
}
