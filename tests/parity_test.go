package tests

import (
	"fmt"
	"testing"

	"loop.example/g01146/impl"
)

// Promise 5: each graph is split into two even sets, and into an even one and an odd one.

func TestParityLimits(t *testing.T) {
	if impl.MaxSplits != 300 || impl.MaxCut != 10 {
		t.Error(impl.MaxSplits, impl.MaxCut)
	}
}

func TestParityExamples(t *testing.T) {
	for _, g := range gridModel(1, 3, false, false).graphs() {
		list, ok := impl.DegreesWithin(g, 7)
		wantList(t, "degrees of all", list, ok, []int{1, 2, 1})
		list, ok = impl.DegreesWithin(g, 6)
		wantList(t, "degrees of 1 and 2", list, ok, []int{1, 1})
		list, ok = impl.DegreesWithin(g, 4)
		wantList(t, "degrees of 2", list, ok, []int{0})
		x, ok := impl.EvenSplit(g)
		wantNumber(t, "even split", x, ok, 2)
		list, ok = impl.EvenSplits(g)
		wantList(t, "even splits", list, ok, []int{2, 5})
		x, ok = impl.EvenOddSplit(g)
		wantNumber(t, "even and odd", x, ok, 1)
		x, ok = impl.CountEvenOdd(g)
		wantNumber(t, "count of even and odd", x, ok, 2)
		x, ok = impl.OddDominating(g)
		wantNumber(t, "odd dominating", x, ok, 2)
		x, ok = impl.CountOddDominating(g)
		wantNumber(t, "count of odd dominating", x, ok, 1)
	}
}

func TestParityOfOneButton(t *testing.T) {
	for _, g := range modelOf(1, false).graphs() {
		x, ok := impl.EvenSplit(g)
		wantNumber(t, "even split", x, ok, 0)
		list, ok := impl.EvenSplits(g)
		wantList(t, "even splits", list, ok, []int{0, 1})
		x, ok = impl.EvenOddSplit(g)
		wantNumber(t, "even and odd", x, ok, 1)
		x, ok = impl.OddDominating(g)
		wantNumber(t, "odd dominating", x, ok, 1)
		list, ok = impl.PartsOf(g)
		wantList(t, "parts", list, ok, []int{1})
		x, ok = impl.CountEvenCuts(g)
		wantNumber(t, "even cuts", x, ok, 1)
		x, ok = impl.CountEvenEdges(g)
		wantNumber(t, "even sets of edges", x, ok, 1)
	}
}

// setsOf gives all sets of a graph of a few buttons, and some of a greater one.
func setsOf(m model, d *dice) []int {
	sets := []int{}
	if m.n <= 6 {
		for set := range power(m.n) {
			sets = append(sets, set)
		}
		return sets
	}
	for range 20 {
		sets = append(sets, d.below(power(m.n)))
	}
	return append(sets, someLights(m, d)...)
}

func TestDegreesWithin(t *testing.T) {
	d := &dice{state: 51}
	for _, p := range parities() {
		for _, set := range setsOf(p.model, d) {
			want := []int{}
			for _, i := range buttonsOf(set) {
				want = append(want, p.inner(i, set))
			}
			for _, g := range p.graphs() {
				list, ok := impl.DegreesWithin(g, set)
				wantList(t, fmt.Sprint(p.text(), " ", set), list, ok, want)
			}
		}
	}
}

func TestEvenAndOddSets(t *testing.T) {
	d := &dice{state: 52}
	for _, p := range parities() {
		sets := setsOf(p.model, d)
		for _, set := range p.evenOdd[:min(len(p.evenOdd), 20)] {
			sets = append(sets, set, power(p.n)-1-set)
		}
		for _, set := range sets {
			for _, g := range p.graphs() {
				what := fmt.Sprint(p.text(), " ", set)
				answer, ok := impl.IsEvenSet(g, set)
				wantAnswer(t, what+" is even", answer, ok, p.leaves(set, 0))
				answer, ok = impl.IsOddSet(g, set)
				wantAnswer(t, what+" is odd", answer, ok, p.leaves(set, 1))
			}
		}
	}
}

func TestSetOfNoButtons(t *testing.T) {
	for _, m := range []model{modelOf(1, false), modelOf(16, false), fullModel(16, false), gridModel(1, 3, false, false)} {
		for _, g := range m.graphs() {
			list, ok := impl.DegreesWithin(g, 0)
			wantList(t, "degrees in no set", list, ok, nil)
			answer, ok := impl.IsEvenSet(g, 0)
			wantAnswer(t, "no button is even", answer, ok, true)
			answer, ok = impl.IsOddSet(g, 0)
			wantAnswer(t, "no button is odd", answer, ok, true)
			cut, ok := impl.CutOf(g, 0)
			wantEdges(t, "cut of no set", cut, ok, nil)
			answer, ok = impl.IsEvenEdges(g, nil)
			wantAnswer(t, "no edge is even", answer, ok, true)
		}
	}
}

func TestSplits(t *testing.T) {
	for _, p := range parities() {
		for _, g := range p.graphs() {
			x, ok := impl.EvenSplit(g)
			wantNumber(t, p.text()+" even split", x, ok, p.even[0])
			x, ok = impl.CountEvenSplits(g)
			wantNumber(t, p.text()+" count of even splits", x, ok, len(p.even))
			x, ok = impl.EvenOddSplit(g)
			wantNumber(t, p.text()+" even and odd", x, ok, p.evenOdd[0])
			x, ok = impl.CountEvenOdd(g)
			wantNumber(t, p.text()+" count of even and odd", x, ok, len(p.evenOdd))
			list, ok := impl.EvenSplits(g)
			if len(p.even) > 300 {
				wantNoList(t, p.text()+" too many splits", list, ok)
			} else {
				wantList(t, p.text()+" even splits", list, ok, p.even)
			}
		}
	}
}

// TestSplitLimit has as many splits as can be told, and the next power of 2.
func TestSplitLimit(t *testing.T) {
	for _, m := range []model{modelOf(8, false), pairsModel(10, 2), pairsModel(12, 4), pairsModel(16, 8)} {
		for _, g := range m.graphs() {
			x, ok := impl.CountEvenSplits(g)
			wantNumber(t, m.text(), x, ok, 256)
			if list, ok := impl.EvenSplits(g); !ok || len(list) != 256 {
				t.Error(m.text(), len(list), ok)
			}
		}
	}
	for _, m := range []model{modelOf(9, false), fullModel(10, false), pairsModel(11, 2), pairsModel(16, 7)} {
		for _, g := range m.graphs() {
			x, ok := impl.CountEvenSplits(g)
			wantNumber(t, m.text(), x, ok, 512)
			list, ok := impl.EvenSplits(g)
			wantNoList(t, m.text(), list, ok)
		}
	}
	x, ok := impl.CountEvenSplits(modelOf(16, false).graph())
	wantNumber(t, "no edges", x, ok, 65536)
	x, ok = impl.CountEvenOdd(fullModel(15, false).graph())
	wantNumber(t, "all edges", x, ok, 16384)
}

// TestSplitsAreEvenAndOdd requires what the promise says of the program's own answers, for more graphs than can be looked through.
func TestSplitsAreEvenAndOdd(t *testing.T) {
	d := &dice{state: 53}
	for range 3000 {
		m := someModel(1+d.below(16), 1+d.below(9), d)
		g, all := m.graph(), power(m.n)-1
		x, ok := impl.EvenSplit(g)
		if !ok || x < 0 || x > all || !m.leaves(x, 0) || !m.leaves(all-x, 0) {
			t.Error(m.text(), "is not split by", x, ok)
		}
		first, _ := impl.IsEvenSet(g, x)
		second, _ := impl.IsEvenSet(g, all-x)
		y, ok := impl.EvenOddSplit(g)
		if !ok || y < 0 || y > all || !m.leaves(y, 0) || !m.leaves(all-y, 1) {
			t.Error(m.text(), "is not split by", y, ok)
		}
		third, _ := impl.IsEvenSet(g, y)
		fourth, _ := impl.IsOddSet(g, all-y)
		if !first || !second || !third || !fourth {
			t.Error(m.text(), first, second, third, fourth)
		}
		if z, ok := impl.OddDominating(g); !ok || !m.dominates(z) {
			t.Error(m.text(), "is not dominated by", z, ok)
		}
	}
}

// someModel has about one in so many of all edges.
func someModel(n, share int, d *dice) model {
	m := modelOf(n, d.below(2) == 0)
	for i := range n {
		for j := range i {
			if d.below(share) == 0 {
				m.join(i, j)
			}
		}
	}
	return m
}

func TestOddDominating(t *testing.T) {
	for _, p := range parities() {
		for _, g := range p.graphs() {
			x, ok := impl.OddDominating(g)
			wantNumber(t, p.text()+" odd dominating", x, ok, p.dominating[0])
			x, ok = impl.CountOddDominating(g)
			wantNumber(t, p.text()+" count of odd dominating", x, ok, len(p.dominating))
			with, _ := impl.WithOwn(g, true)
			nullity, _ := impl.NullityOf(with)
			wantNumber(t, p.text()+" nullity", x, ok, power(nullity))
		}
	}
}

// splitCalls has the functions that take a graph alone.
func splitCalls() map[string]func(g impl.Graph) ([]int, bool) {
	calls := map[string]func(g impl.Graph) ([]int, bool){"EvenSplits": impl.EvenSplits, "PartsOf": impl.PartsOf}
	for name, call := range map[string]func(g impl.Graph) (int, bool){
		"EvenSplit": impl.EvenSplit, "EvenOddSplit": impl.EvenOddSplit, "CountEvenSplits": impl.CountEvenSplits, "CountEvenOdd": impl.CountEvenOdd,
		"OddDominating": impl.OddDominating, "CountOddDominating": impl.CountOddDominating, "CountEvenCuts": impl.CountEvenCuts, "CountEvenEdges": impl.CountEvenEdges,
	} {
		calls[name] = func(g impl.Graph) ([]int, bool) { return asList(call(g)) }
	}
	return calls
}

// wantNoSet requires all functions that take a set to refuse it.
func wantNoSet(t *testing.T, what string, g impl.Graph, set int) {
	t.Helper()
	list, ok := impl.DegreesWithin(g, set)
	wantNoList(t, "DegreesWithin "+what, list, ok)
	answer, ok := impl.IsEvenSet(g, set)
	wantNoAnswer(t, "IsEvenSet "+what, answer, ok)
	answer, ok = impl.IsOddSet(g, set)
	wantNoAnswer(t, "IsOddSet "+what, answer, ok)
	cut, ok := impl.CutOf(g, set)
	wantNoEdges(t, "CutOf "+what, cut, ok)
}

func TestParityInvalidSets(t *testing.T) {
	for _, m := range []model{modelOf(1, false), modelOf(3, false, [2]int{0, 1}), modelOf(8, false), modelOf(16, false, [2]int{14, 15}), fullModel(16, false)} {
		for _, g := range m.graphs() {
			for _, set := range notBelow(power(m.n)) {
				wantNoSet(t, fmt.Sprint(m.text(), " ", set), g, set)
			}
		}
	}
}

func TestParityInvalidGraphs(t *testing.T) {
	for _, g := range badGraphs() {
		what := fmt.Sprint(g)
		for name, call := range splitCalls() {
			list, ok := call(g)
			wantNoList(t, name+" "+what, list, ok)
		}
		for _, set := range []int{0, 1, 3, -1, 65535, 65536} {
			wantNoSet(t, fmt.Sprint(what, " ", set), g, set)
		}
		for _, edges := range [][][]int{nil, {{0, 1}}, {{0, 1}, {0, 1}}, {{1, 0}}, {nil}} {
			answer, ok := impl.IsEvenEdges(g, edges)
			wantNoAnswer(t, fmt.Sprint("IsEvenEdges ", what, edges), answer, ok)
		}
	}
}
