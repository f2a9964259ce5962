package tests

import (
	"fmt"
	"math"
	"slices"
	"testing"

	"loop.example/g01146/impl"
)

// Promise 5, parts of graphs and sets of edges.

func wantEdges(t *testing.T, what string, edges [][]int, ok bool, want [][]int) {
	t.Helper()
	if !ok || !slices.EqualFunc(edges, want, slices.Equal) {
		t.Errorf("%s: %v %v, want %v true", what, edges, ok, want)
	}
}

func wantNoEdges(t *testing.T, what string, edges [][]int, ok bool) {
	t.Helper()
	if ok || len(edges) > 0 {
		t.Errorf("%s: %v %v, want no edges", what, edges, ok)
	}
}

func TestPartsOf(t *testing.T) {
	d := &dice{state: 54}
	models := allModels(5)
	for range 2000 {
		models = append(models, someModel(1+d.below(16), 1+d.below(20), d))
	}
	for _, m := range models {
		list, ok := impl.PartsOf(m.graph())
		wantList(t, m.text()+" parts", list, ok, m.parts())
	}
}

func TestPartsExamples(t *testing.T) {
	evenAndOdd, star, nested := modelOf(16, false), modelOf(16, true), modelOf(16, false)
	for i := range 14 {
		evenAndOdd.join(i, i+2)
	}
	for i := range 15 {
		star.join(i, 15)
	}
	for i := range 8 {
		nested.join(i, 15-i)
	}
	for _, c := range []struct {
		m    model
		want []int
	}{
		{evenAndOdd, []int{0x5555, 0xAAAA}},
		{star, []int{0xFFFF}},
		{nested, []int{0x8001, 0x4002, 0x2004, 0x1008, 0x0810, 0x0420, 0x0240, 0x0180}},
		{modelOf(4, true), []int{1, 2, 4, 8}},
		{modelOf(4, true, [2]int{0, 3}), []int{9, 2, 4}},
		{modelOf(5, false, [2]int{1, 3}, [2]int{2, 4}, [2]int{3, 4}), []int{1, 30}},
	} {
		list, ok := impl.PartsOf(c.m.graph())
		wantList(t, c.m.text(), list, ok, c.want)
	}
}

func TestCutOf(t *testing.T) {
	d := &dice{state: 55}
	for _, m := range append(allModels(4), bigModels()...) {
		all := power(m.n) - 1
		for _, set := range setsOf(m, d) {
			what := fmt.Sprint(m.text(), " cut of ", set)
			cut, ok := impl.CutOf(m.graph(), set)
			wantEdges(t, what, cut, ok, m.cut(set))
			cut, ok = impl.CutOf(m.graph(), all-set)
			wantEdges(t, what+" and the others", cut, ok, m.cut(set))
		}
		for _, part := range m.parts() {
			cut, ok := impl.CutOf(m.graph(), part)
			wantEdges(t, m.text()+" cut of a part", cut, ok, nil)
		}
	}
}

func TestCutExamples(t *testing.T) {
	for _, g := range gridModel(2, 2, false, false).graphs() {
		for set, want := range map[int][][]int{
			0: {}, 15: {}, 1: {{0, 1}, {0, 2}}, 8: {{1, 3}, {2, 3}}, 3: {{0, 2}, {1, 3}}, 6: {{0, 1}, {0, 2}, {1, 3}, {2, 3}},
		} {
			cut, ok := impl.CutOf(g, set)
			wantEdges(t, fmt.Sprint("cut of ", set), cut, ok, want)
		}
	}
}

// chosen returns the edges with the given places.
func chosen(edges [][]int, places []int) [][]int {
	list := [][]int{}
	for _, k := range places {
		list = append(list, edges[k])
	}
	return list
}

func wantParity(t *testing.T, m model, edges [][]int) {
	t.Helper()
	for _, g := range m.graphs() {
		answer, ok := impl.IsEvenEdges(g, edges)
		wantAnswer(t, fmt.Sprint(m.text(), " ", edges), answer, ok, isEvenAtAll(edges))
	}
}

func TestIsEvenEdges(t *testing.T) {
	d := &dice{state: 56}
	for _, m := range allModels(4) {
		edges := m.edges()
		for choice := range power(len(edges)) {
			wantParity(t, m, chosen(edges, d.shuffled(buttonsOf(choice))))
		}
	}
	for _, m := range bigModels() {
		edges := m.edges()
		for range 20 {
			places := []int{}
			for k := range edges {
				if d.below(3) == 0 {
					places = append(places, k)
				}
			}
			wantParity(t, m, chosen(edges, d.shuffled(places)))
		}
		for set := range power(min(m.n, 6)) {
			wantParity(t, m, m.cut(set))
		}
	}
}

func TestIsEvenEdgesOfWholeGraphs(t *testing.T) {
	for n := 1; n <= 16; n++ {
		for _, m := range []model{fullModel(n, false), gridModel(1, n, false, false), gridModel(1, n, false, true), pairsModel(n, n/2)} {
			edges := m.edges()
			wantParity(t, m, edges)
			slices.Reverse(edges)
			wantParity(t, m, edges)
		}
	}
	torus := gridModel(4, 4, false, true)
	answer, ok := impl.IsEvenEdges(torus.graph(), torus.edges())
	wantAnswer(t, "all edges of a torus", answer, ok, true)
	answer, ok = impl.IsEvenEdges(torus.graph(), torus.edges()[1:])
	wantAnswer(t, "all edges but one", answer, ok, false)
}

// TestSumsOfTriangles adds up triangles of a full graph, which are even.
func TestSumsOfTriangles(t *testing.T) {
	d := &dice{state: 57}
	for n := 3; n <= 16; n++ {
		m, odd := fullModel(n, false), map[[2]int]bool{}
		for range 30 {
			three := d.shuffled(buttonsOf(power(n) - 1))[:3]
			slices.Sort(three)
			for _, e := range [][2]int{{three[0], three[1]}, {three[0], three[2]}, {three[1], three[2]}} {
				odd[e] = !odd[e]
			}
			edges := slices.DeleteFunc(m.edges(), func(e []int) bool { return !odd[[2]int{e[0], e[1]}] })
			answer, ok := impl.IsEvenEdges(m.graph(), edges)
			wantAnswer(t, fmt.Sprint(n, " ", edges), answer, ok, true)
			if len(edges) > 0 {
				answer, ok = impl.IsEvenEdges(m.graph(), edges[1:])
				wantAnswer(t, fmt.Sprint(n, " ", edges[1:]), answer, ok, false)
			}
		}
	}
}

// TestIsEvenEdgesInvalid has lists with one thing that is no further edge, at each place.
func TestIsEvenEdgesInvalid(t *testing.T) {
	wrong := [][]int{
		nil, {}, {0}, {2}, {0, 1, 2}, {2, 3, 0}, {1, 0}, {2, 1}, {3, 2}, {0, 0}, {2, 2}, {0, 1}, {1, 2}, {0, 2}, {1, 3}, {0, 3}, {3, 4}, {4, 5}, {0, 4}, {-1, 0}, {-2, -1}, {-1, 3},
		{0, 16}, {0, 64}, {2, 64}, {64, 65}, {2, 67}, {-62, 3}, {0, math.MaxInt}, {math.MinInt, 0}, {math.MinInt, math.MaxInt}, {math.MaxInt, math.MinInt},
	}
	for _, g := range gridModel(1, 4, false, false).graphs() {
		answer, ok := impl.IsEvenEdges(g, [][]int{{0, 1}, {1, 2}, {2, 3}})
		wantAnswer(t, "all edges of a path", answer, ok, false)
		for _, e := range wrong {
			for place := range 3 {
				edges := slices.Insert([][]int{{0, 1}, {1, 2}}, place, e)
				answer, ok := impl.IsEvenEdges(g, edges)
				wantNoAnswer(t, fmt.Sprint("path ", edges), answer, ok)
			}
		}
	}
	circle := gridModel(1, 16, false, true)
	for _, e := range append(wrong, circle.edges()...) {
		if slices.Equal(e, []int{2, 3}) {
			continue
		}
		for _, g := range circle.graphs() {
			answer, ok := impl.IsEvenEdges(g, append(circle.edges(), e))
			wantNoAnswer(t, fmt.Sprint("circle and ", e), answer, ok)
		}
	}
	for _, g := range modelOf(1, false).graphs() {
		for _, e := range append(wrong, []int{0, 1}) {
			answer, ok := impl.IsEvenEdges(g, [][]int{e})
			wantNoAnswer(t, fmt.Sprint("no edges and ", e), answer, ok)
		}
	}
}

func TestEdgeToldTwice(t *testing.T) {
	full := fullModel(16, false)
	edges := full.edges()
	for k, e := range edges {
		for _, list := range [][][]int{{e, e}, append(chosen(edges, []int{k}), edges...), append(slices.Clone(edges), e)} {
			answer, ok := impl.IsEvenEdges(full.graph(), list)
			wantNoAnswer(t, fmt.Sprint("told twice: ", e), answer, ok)
		}
		answer, ok := impl.IsEvenEdges(full.graph(), [][]int{e, {e[1], e[0]}})
		wantNoAnswer(t, fmt.Sprint("told both ways: ", e), answer, ok)
	}
}

func TestCountEvenCuts(t *testing.T) {
	for _, p := range parities() {
		for _, g := range p.graphs() {
			x, ok := impl.CountEvenCuts(g)
			if p.n > 10 {
				wantNoNumber(t, p.text()+" even cuts", x, ok)
				continue
			}
			wantNumber(t, p.text()+" even cuts", x, ok, p.evenCuts())
			wantNumber(t, p.text()+" splits are cuts times parts", x*power(len(p.parts())), ok, len(p.even))
		}
	}
}

func TestCountEvenCutsExamples(t *testing.T) {
	for _, c := range []struct {
		m    model
		want int
	}{
		{fullModel(10, false), 256}, {modelOf(10, false), 1}, {gridModel(1, 10, false, true), 2}, {gridModel(1, 10, false, false), 1}, {gridModel(2, 2, false, false), 2}, {gridModel(3, 3, false, true), 16},
	} {
		x, ok := impl.CountEvenCuts(c.m.graph())
		wantNumber(t, c.m.text(), x, ok, c.want)
	}
	for _, m := range []model{fullModel(11, false), modelOf(11, true), gridModel(1, 11, false, false), modelOf(16, false), gridModel(4, 4, true, true)} {
		x, ok := impl.CountEvenCuts(m.graph())
		wantNoNumber(t, m.text(), x, ok)
	}
}

// wantEvenEdges compares with a count edge by edge where that can be made, and with the number of edges that lead round elsewhere.
func wantEvenEdges(t *testing.T, m model) {
	t.Helper()
	want, edges := 0, m.edges()
	if round := len(edges) - m.n + len(m.parts()); len(edges) <= 62 {
		want = m.evenEdgeSets()
	} else if round <= 60 {
		want = power(round)
	}
	for _, g := range m.graphs() {
		x, ok := impl.CountEvenEdges(g)
		if want == 0 {
			wantNoNumber(t, m.text(), x, ok)
		} else {
			wantNumber(t, m.text(), x, ok, want)
		}
	}
}

func TestCountEvenEdges(t *testing.T) {
	for _, m := range allModels(4) {
		count := 0
		for choice := range power(len(m.edges())) {
			if isEvenAtAll(chosen(m.edges(), buttonsOf(choice))) {
				count++
			}
		}
		x, ok := impl.CountEvenEdges(m.graph())
		wantNumber(t, m.text(), x, ok, count)
	}
	for _, p := range parities() {
		wantEvenEdges(t, p.model)
	}
}

// TestEvenEdgesLimit adds one edge after the other, in which the power of 2 passes 60.
func TestEvenEdgesLimit(t *testing.T) {
	d := &dice{state: 58}
	for n := 10; n <= 16; n++ {
		places := make([]int, len(fullModel(n, false).edges()))
		for k := range places {
			places[k] = k
		}
		for _, order := range [][]int{places, d.shuffled(places), d.shuffled(places)} {
			m := modelOf(n, false)
			for _, e := range chosen(fullModel(n, false).edges(), order) {
				m.join(e[0], e[1])
				if len(m.edges()) > 62 {
					wantEvenEdges(t, m)
				}
			}
		}
	}
}

func TestEvenEdgesAtLimit(t *testing.T) {
	// Twelve buttons with all 66 edges, one more that leads round with six, and three alone: 72 edges, 16 buttons and 4 parts.
	m := modelOf(16, false)
	for _, e := range fullModel(12, false).edges() {
		m.join(e[0], e[1])
	}
	for i := range 6 {
		m.join(i, 12)
	}
	for _, g := range m.graphs() {
		x, ok := impl.CountEvenEdges(g)
		wantNumber(t, m.text(), x, ok, 1<<60)
	}
	m.join(6, 13)
	for _, g := range m.graphs() {
		x, ok := impl.CountEvenEdges(g)
		wantNumber(t, m.text(), x, ok, 1<<60)
	}
	m.join(7, 13)
	for _, g := range append(m.graphs(), fullModel(13, false).graph(), fullModel(16, true).graph()) {
		x, ok := impl.CountEvenEdges(g)
		wantNoNumber(t, m.text(), x, ok)
	}
}
