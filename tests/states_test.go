package tests

import (
	"fmt"
	"testing"

	"loop.example/g01146/impl"
)

// Promise 6: forests are solved from leaves to roots, and nullities follow matchings.

// ways tells for all sets of lights how many sets of presses solve them, and the least number of presses of one.
func (tr truth) ways() (counts, least []int) {
	counts, least = filled(power(tr.n), 0), filled(power(tr.n), 99)
	for presses, lights := range tr.effects {
		counts[lights]++
		least[lights] = min(least[lights], len(buttonsOf(presses)))
	}
	return counts, least
}

// wantStates requires both numbers that are found by states.
func wantStates(t *testing.T, m model, lights, count, least int) {
	t.Helper()
	what := fmt.Sprint(m.text(), " lights ", lights)
	x, ok := impl.CountByStates(m.graph(), lights)
	wantNumber(t, what+" count", x, ok, count)
	x, ok = impl.LeastByStates(m.graph(), lights)
	if count == 0 {
		wantNoNumber(t, what+" least", x, ok)
	} else {
		wantNumber(t, what+" least", x, ok, least)
	}
}

// TestStates has each board of the forests of up to 7 buttons, and some of the greater ones.
func TestStates(t *testing.T) {
	d := &dice{state: 65}
	for _, tr := range forestTruths() {
		counts, least := tr.ways()
		boards := tr.boards(d)
		if tr.n <= 7 {
			boards = nil
			for lights := range power(tr.n) {
				boards = append(boards, lights)
			}
		}
		for _, lights := range boards {
			wantStates(t, tr.model, lights, counts[lights], least[lights])
		}
	}
}

// TestStatesAreSolutions compares with elimination.
func TestStatesAreSolutions(t *testing.T) {
	d := &dice{state: 66}
	for range 600 {
		m := someForest(1+d.below(16), 1+d.below(12), d).withOwn(d.below(3) > 0)
		g := m.graph()
		for _, lights := range append(someLights(m, d), m.press(0, d.word(m.n, 5)...)) {
			count, _ := impl.CountSolutions(g, lights)
			presses, _ := impl.LeastSolution(g, lights)
			wantStates(t, m, lights, count, len(buttonsOf(presses)))
		}
		nullity, _ := impl.NullityOf(g)
		x, ok := impl.NullityByStates(g)
		wantNumber(t, m.text()+" nullity", x, ok, nullity)
	}
}

func TestStatesExamples(t *testing.T) {
	for _, c := range []struct {
		text                 string
		lights, count, least int
	}{
		{"1+:-", 0, 1, 0}, {"1+:-", 1, 1, 1}, {"1:-", 0, 2, 0}, {"1:-", 1, 0, 0}, {"2+:0-1", 3, 2, 1}, {"2+:0-1", 1, 0, 0}, {"2:0-1", 3, 1, 2}, {"2:0-1", 1, 1, 1},
		{"3+:0-1,1-2", 7, 1, 1}, {"3+:0-1,1-2", 5, 1, 2}, {"3+:0-2,1-2", 7, 1, 1}, {"3+:-", 5, 1, 2}, {"3:-", 0, 8, 0}, {"3:-", 4, 0, 0},
		{"4+:0-1,2-3", 15, 4, 2}, {"4+:0-1,2-3", 7, 0, 0}, {"4+:0-1,2-3", 13, 0, 0}, {"4+:0-1,0-2,0-3", 15, 2, 1}, {"4:0-1,0-2,0-3", 15, 4, 2},
		{"16:-", 0, 65536, 0}, {"16:-", 32768, 0, 0}, {"16+:-", 65535, 1, 16}, {"16:0-15", 0, 16384, 0}, {"16:0-15", 32769, 16384, 2}, {"16:0-1", 4, 0, 0},
	} {
		g, _ := impl.ParseGraph(c.text)
		x, ok := impl.CountByStates(g, c.lights)
		wantNumber(t, fmt.Sprint(c, " count"), x, ok, c.count)
		x, ok = impl.LeastByStates(g, c.lights)
		if c.count == 0 {
			wantNoNumber(t, fmt.Sprint(c, " least"), x, ok)
		} else {
			wantNumber(t, fmt.Sprint(c, " least"), x, ok, c.least)
		}
	}
}

func TestNullityByStates(t *testing.T) {
	for _, tr := range forestTruths() {
		x, ok := impl.NullityByStates(tr.graph())
		if !ok || x < 0 || power(x) != len(tr.quiet()) {
			t.Errorf("%s: %d %v, want the power for %d", tr.text(), x, ok, len(tr.quiet()))
		}
	}
	for text, want := range map[string]int{"1:-": 1, "1+:-": 0, "16:-": 16, "16+:-": 0, "2+:0-1": 1, "2:0-1": 0, "6+:0-1,2-3,4-5": 3, "3:0-1,1-2": 1, "4+:0-1,0-2,0-3": 1} {
		g, _ := impl.ParseGraph(text)
		x, ok := impl.NullityByStates(g)
		wantNumber(t, text, x, ok, want)
	}
}

// TestMatchingOf compares with the document's words, which Own does not matter for.
func TestMatchingOf(t *testing.T) {
	d := &dice{state: 67}
	models := forestModels()
	for range 2000 {
		models = append(models, someForest(1+d.below(16), 1+d.below(12), d))
	}
	for _, m := range models {
		want := m.matching()
		for _, g := range m.graphs() {
			edges, ok := impl.MatchingOf(g)
			wantEdges(t, m.text(), edges, ok, want)
			x, ok := impl.MatchingSize(g)
			wantNumber(t, m.text()+" size", x, ok, len(want))
		}
	}
}

// TestMatchingsAreGreatest requires edges of the graph without common buttons, as many as there can be.
func TestMatchingsAreGreatest(t *testing.T) {
	for _, m := range forestModels() {
		edges, ok := impl.MatchingOf(m.graph())
		used := map[int]bool{}
		for _, e := range edges {
			if len(e) != 2 || e[0] >= e[1] || !m.near[e[0]][e[1]] || used[e[0]] || used[e[1]] {
				t.Errorf("%s: %v", m.text(), edges)
				break
			}
			used[e[0]], used[e[1]] = true, true
		}
		wantNumber(t, m.text()+" edges", len(edges), ok, mostApart(m.edges(), 0))
	}
}

// TestNullitiesFollowMatchings has forests without Own: each edge of the matching takes two buttons from the nullity.
func TestNullitiesFollowMatchings(t *testing.T) {
	for _, tr := range forestTruths() {
		if tr.own {
			continue
		}
		size, ok := impl.MatchingSize(tr.graph())
		wantNumber(t, tr.text()+" quiet patterns", power(tr.n-2*size), ok, len(tr.quiet()))
		nullity, _ := impl.NullityByStates(tr.graph())
		wantNumber(t, tr.text()+" nullity", tr.n-2*size, ok, nullity)
	}
}

func TestMatchingExamples(t *testing.T) {
	for text, want := range map[string][][]int{
		"1:-": nil, "16+:-": nil, "2:0-1": {{0, 1}}, "3:0-1,1-2": {{1, 2}}, "3:0-1,0-2": {{0, 2}}, "3:0-2,1-2": {{1, 2}}, "4:0-1,1-2,2-3": {{0, 1}, {2, 3}},
		"5:0-1,1-2,2-3,3-4": {{1, 2}, {3, 4}}, "6:0-5,1-4,2-3": {{0, 5}, {1, 4}, {2, 3}}, "4:0-3,1-3,2-3": {{2, 3}}, "5:0-1,0-2,1-3,1-4": {{0, 2}, {1, 4}},
		"7:0-1,0-2,1-3,1-4,2-5,2-6": {{1, 4}, {2, 6}}, "6+:0-4,1-5,2-4,3-5": {{2, 4}, {3, 5}},
	} {
		g, _ := impl.ParseGraph(text)
		edges, ok := impl.MatchingOf(g)
		wantEdges(t, text, edges, ok, want)
	}
}
