package tests

import (
	"fmt"
	"slices"
	"testing"

	"loop.example/g01146/impl"
)

// Promise 7, second half: lights of several colours are solved or refused by a quiet list.

func (c tinted) name() string { return fmt.Sprint(c.text(), " of ", c.m, " colours") }

func (c tinted) nullity() int { return len(c.firsts) }

// hasZerosAtFirsts reports whether a list has 0 at the first places of all quiet lists, but for one place, or -1 for none.
func (c tinted) hasZerosAtFirsts(list []int, but int) bool {
	for _, place := range c.firsts {
		if place != but && list[place] != 0 {
			return false
		}
	}
	return true
}

func TestColoursSolvedOrRefused(t *testing.T) {
	d := &dice{state: 91}
	for _, c := range tints() {
		for _, lights := range c.boards(d) {
			what, count := fmt.Sprint(c.name(), " ", lights), c.solutions(lights)
			x, ok := impl.CountColourSolutions(c.graph(), c.m, lights)
			wantNumber(t, what+" count", x, ok, count)
			presses, solved := impl.SolveColours(c.graph(), c.m, lights)
			witness, refused := impl.WitnessColours(c.graph(), c.m, lights)
			if solved == refused || solved != (count > 0) {
				t.Errorf("%s: solved %v, refused %v, %d solutions", what, solved, refused, count)
				continue
			}
			if refused {
				wantNoList(t, what+" solution", presses, solved)
				c.wantFirstWitness(t, lights, witness)
				continue
			}
			wantNoList(t, what+" witness", witness, refused)
			if !c.isList(presses) || !isAll(c.behind(lights, presses), 0) || !c.hasZerosAtFirsts(presses, -1) {
				t.Errorf("%s: %v does not solve it, or has a number at one of %v", what, presses, c.firsts)
			}
		}
	}
}

// wantFirstWitness requires that the quiet lists before the witness have the product 0 with the lights.
func (c tinted) wantFirstWitness(t *testing.T, lights, witness []int) {
	t.Helper()
	lists, _ := impl.QuietColours(c.graph(), c.m)
	for _, list := range lists {
		if meet(c.m, list, lights) != 0 {
			wantList(t, fmt.Sprint(c.name(), " ", lights, " witness"), witness, true, list)
			return
		}
	}
	t.Errorf("%s %v: %v has the product 0", c.name(), lights, witness)
}

// TestQuietColours requires one quiet list for each place at which any quiet list has its first number, with 1 there and 0 at the other ones: there is just one such list.
func TestQuietColours(t *testing.T) {
	for _, c := range tints() {
		lists, ok := impl.QuietColours(c.graph(), c.m)
		if !ok || len(lists) != c.nullity() {
			t.Errorf("%s: %v %v, want lists for %v", c.name(), lists, ok, c.firsts)
			continue
		}
		for k, list := range lists {
			place := c.firsts[k]
			if !c.isList(list) || !isAll(list[:place], 0) || list[place] != 1 || !c.hasZerosAtFirsts(list, place) || !isAll(c.effect(list), 0) {
				t.Errorf("%s: %v for the place %d of %v", c.name(), list, place, c.firsts)
			}
		}
	}
}

// TestQuietColoursAreAll adds multiples of the lists: each quiet list of a small graph comes just once.
func TestQuietColoursAreAll(t *testing.T) {
	for _, c := range tints() {
		if c.quiet > 2500 {
			continue
		}
		lists, _ := impl.QuietColours(c.graph(), c.m)
		sums := map[string]bool{}
		for _, times := range allTints(len(lists), c.m) {
			sum := filled(c.n, 0)
			for k, list := range lists {
				for i := range sum {
					sum[i] = (sum[i] + times[k]*list[i]) % c.m
				}
			}
			sums[digitsOf(sum)] = true
			if !isAll(c.effect(sum), 0) {
				t.Errorf("%s: %v is not quiet", c.name(), sum)
			}
		}
		wantNumber(t, c.name(), len(sums), true, c.quiet)
	}
}

func TestRankAndNullityColours(t *testing.T) {
	for _, c := range tints() {
		nullity, ok := impl.NullityColours(c.graph(), c.m)
		wantNumber(t, c.name()+" nullity", nullity, ok, c.nullity())
		rank, ok := impl.RankColours(c.graph(), c.m)
		wantNumber(t, c.name()+" rank", rank, ok, c.n-c.nullity())
		count := 1
		for range nullity {
			count *= c.m
		}
		wantNumber(t, c.name()+" quiet lists", count, true, c.quiet)
	}
}

func TestDeterminantColours(t *testing.T) {
	d := &dice{state: 92}
	models := append(colourModels(), allModels(5)...)
	for range 1500 {
		models = append(models, someModel(1+d.below(10), 1+d.below(4), d).withOwn(d.below(2) == 0))
	}
	for _, of := range models {
		exact := of.determinant()
		for _, m := range primes() {
			x, ok := impl.DeterminantColours(of.graph(), m)
			wantNumber(t, fmt.Sprint(of.text(), " of ", m, " colours"), x, ok, (exact%m+m)%m)
			nullity, ok := impl.NullityColours(of.graph(), m)
			if !ok || (x == 0) != (nullity > 0) {
				t.Errorf("%s of %d colours: determinant %d, nullity %d", of.text(), m, x, nullity)
			}
		}
	}
}

func TestDeterminantExamples(t *testing.T) {
	for text, want := range map[string][4]int{
		"1:-": {0, 0, 0, 0}, "1+:-": {1, 1, 1, 1}, "10:-": {0, 0, 0, 0}, "10+:-": {1, 1, 1, 1}, "2:0-1": {1, 2, 4, 6}, "2+:0-1": {0, 0, 0, 0}, "3:0-1,0-2,1-2": {0, 2, 2, 2}, "3+:0-1,1-2": {1, 2, 4, 6},
		"4:0-1,0-2,0-3,1-2,1-3,2-3": {1, 0, 2, 4}, "4+:0-1,0-2,0-3": {0, 1, 3, 5}, "4:0-1,2-3": {1, 1, 1, 1}, "6:0-1,2-3,4-5": {1, 2, 4, 6}, "6:0-5,1-4,2-3": {1, 2, 4, 6}, "3:0-1,1-2": {0, 0, 0, 0},
	} {
		g, _ := impl.ParseGraph(text)
		for k, m := range primes() {
			x, ok := impl.DeterminantColours(g, m)
			wantNumber(t, fmt.Sprint(text, " of ", m, " colours"), x, ok, want[k])
		}
	}
	// The full graph of n buttons without Own has the determinant n - 1, with a minus for even n.
	for n := 1; n <= 10; n++ {
		for _, m := range primes() {
			want := n - 1
			if n%2 == 0 {
				want = 7*m*m - want
			}
			x, ok := impl.DeterminantColours(fullModel(n, false).graph(), m)
			wantNumber(t, fmt.Sprint("full graph of ", n, " and ", m, " colours"), x, ok, want%m)
		}
	}
}

func TestAllAtOnce(t *testing.T) {
	for _, c := range tints() {
		lights := filled(c.n, c.m-1)
		list, ok := impl.AllAtOnce(c.graph(), c.m)
		if c.solutions(lights) == 0 {
			wantNoList(t, c.name(), list, ok)
			continue
		}
		if !ok || !c.isList(list) || !isAll(c.effect(list), 1) || !c.hasZerosAtFirsts(list, -1) {
			t.Errorf("%s: %v %v", c.name(), list, ok)
		}
		presses, ok := impl.SolveColours(c.graph(), c.m, lights)
		wantList(t, c.name()+" solved", list, ok, presses)
	}
}

func TestAllAtOnceExamples(t *testing.T) {
	for _, x := range []struct {
		text string
		m    int
		want []int
	}{
		{"1+:-", 2, []int{1}}, {"1+:-", 7, []int{1}}, {"1:-", 3, nil}, {"2+:0-1", 3, []int{0, 1}}, {"2:0-1", 5, []int{1, 1}}, {"3:0-1,0-2,1-2", 2, nil}, {"3:0-1,0-2,1-2", 3, []int{2, 2, 2}}, {"3:0-1,0-2,1-2", 5, []int{3, 3, 3}},
		{"3:0-1,0-2,1-2", 7, []int{4, 4, 4}}, {"3+:0-1,1-2", 7, []int{0, 1, 0}}, {"10+:-", 5, filled(10, 1)}, {"10:-", 5, nil}, {"3:0-1,1-2", 5, []int{0, 1, 1}}, {"4:0-1,0-2,0-3,1-2,1-3,2-3", 3, nil},
	} {
		g, _ := impl.ParseGraph(x.text)
		list, ok := impl.AllAtOnce(g, x.m)
		if x.want == nil {
			wantNoList(t, fmt.Sprint(x), list, ok)
		} else {
			wantList(t, fmt.Sprint(x), list, ok, x.want)
		}
	}
}

func TestQuietColoursExamples(t *testing.T) {
	for _, x := range []struct {
		text string
		m    int
		want [][]int
	}{
		{"1:-", 7, [][]int{{1}}}, {"1+:-", 7, nil}, {"2+:0-1", 2, [][]int{{1, 1}}}, {"2+:0-1", 3, [][]int{{1, 2}}}, {"2+:0-1", 7, [][]int{{1, 6}}}, {"3:-", 3, [][]int{{1, 0, 0}, {0, 1, 0}, {0, 0, 1}}}, {"3:0-1,1-2", 5, [][]int{{1, 0, 4}}},
		{"3:0-1", 5, [][]int{{0, 0, 1}}}, {"3:1-2", 5, [][]int{{1, 0, 0}}}, {"3+:0-1,0-2,1-2", 5, [][]int{{1, 0, 4}, {0, 1, 4}}}, {"4:0-1,0-3,1-2,2-3", 3, [][]int{{1, 0, 2, 0}, {0, 1, 0, 2}}}, {"3:0-1,0-2,1-2", 2, [][]int{{1, 1, 1}}},
		{"3:0-1,0-2,1-2", 3, nil}, {"4:0-1,0-2,0-3,1-2,1-3,2-3", 3, [][]int{{1, 1, 1, 1}}}, {"4+:0-1,0-2,0-3", 2, [][]int{{1, 1, 1, 1}}}, {"4+:0-1,0-2,0-3", 3, nil}, {"5+:0-1,0-2,0-3,0-4", 3, [][]int{{1, 2, 2, 2, 2}}},
	} {
		g, _ := impl.ParseGraph(x.text)
		lists, ok := impl.QuietColours(g, x.m)
		wantEdges(t, fmt.Sprint(x), lists, ok, x.want)
	}
}

func TestSolveColoursExamples(t *testing.T) {
	for _, x := range []struct {
		text             string
		m                int
		lights           []int
		presses, witness []int
		count            int
	}{
		{"1+:-", 7, []int{3}, []int{4}, nil, 1}, {"1+:-", 7, []int{0}, []int{0}, nil, 1}, {"1:-", 5, []int{0}, []int{0}, nil, 5}, {"1:-", 5, []int{3}, nil, []int{1}, 0}, {"2+:0-1", 3, []int{2, 2}, []int{0, 1}, nil, 3},
		{"2+:0-1", 3, []int{0, 0}, []int{0, 0}, nil, 3}, {"2+:0-1", 3, []int{1, 2}, nil, []int{1, 2}, 0}, {"2:0-1", 7, []int{1, 2}, []int{5, 6}, nil, 1}, {"3+:0-1,0-2,1-2", 5, []int{2, 2, 2}, []int{0, 0, 3}, nil, 25},
		{"3+:0-1,0-2,1-2", 5, []int{1, 0, 0}, nil, []int{1, 0, 4}, 0}, {"3+:0-1,0-2,1-2", 5, []int{0, 1, 0}, nil, []int{0, 1, 4}, 0}, {"3+:0-1,0-2,1-2", 5, []int{1, 0, 1}, nil, []int{0, 1, 4}, 0},
		{"10:-", 7, filled(10, 0), filled(10, 0), nil, 282475249}, {"10:-", 7, append(filled(9, 0), 6), nil, append(filled(9, 0), 1), 0}, {"10+:-", 7, filled(10, 6), filled(10, 1), nil, 1},
	} {
		g, _ := impl.ParseGraph(x.text)
		count, ok := impl.CountColourSolutions(g, x.m, x.lights)
		wantNumber(t, fmt.Sprint(x), count, ok, x.count)
		presses, solved := impl.SolveColours(g, x.m, x.lights)
		witness, refused := impl.WitnessColours(g, x.m, x.lights)
		if solved != (x.presses != nil) || refused != (x.witness != nil) || !slices.Equal(presses, x.presses) || !slices.Equal(witness, x.witness) {
			t.Errorf("%v: %v %v, %v %v", x, presses, solved, witness, refused)
		}
	}
}

// bitsOf tells a set as a list for two colours.
func bitsOf(n, set int) []int {
	list := filled(n, 0)
	for _, i := range buttonsOf(set) {
		list[i] = 1
	}
	return list
}

// backwards turns round which buttons are the first ones: chapter 2 has greatest elements in place of first numbers.
func backwards(m model) model {
	var names []int
	for i := range m.n {
		names = append(names, m.n-1-i)
	}
	return m.renamed(names)
}

func turned(list []int) []int {
	list = slices.Clone(list)
	slices.Reverse(list)
	return list
}

// TestTwoColours compares two colours with chapter 2.
func TestTwoColours(t *testing.T) {
	d := &dice{state: 93}
	for _, of := range colourModels() {
		g, back := of.graph(), backwards(of).graph()
		nullity, _ := impl.NullityOf(g)
		x, ok := impl.NullityColours(g, 2)
		wantNumber(t, of.text()+" nullity", x, ok, nullity)
		basis, _ := impl.QuietBasis(back)
		var want [][]int
		for _, q := range slices.Backward(basis) {
			want = append(want, turned(bitsOf(of.n, q)))
		}
		lists, ok := impl.QuietColours(g, 2)
		wantEdges(t, of.text()+" quiet lists", lists, ok, want)
		for _, set := range append(someLights(of, d), of.press(0, d.word(of.n, 4)...)) {
			effect, _ := impl.EffectOf(g, set)
			list, ok := impl.EffectColours(g, 2, bitsOf(of.n, set))
			wantList(t, of.text()+" effect", list, ok, bitsOf(of.n, effect))
			presses, solved := impl.SolveBoard(back, set)
			list, ok = impl.SolveColours(g, 2, turned(bitsOf(of.n, set)))
			if solved {
				wantList(t, of.text()+" solution", list, ok, turned(bitsOf(of.n, presses)))
			} else {
				wantNoList(t, of.text()+" solution", list, ok)
			}
		}
	}
}
