package tests

import (
	"fmt"
	"math"
	"slices"
	"testing"

	"loop.example/g01146/impl"
)

// Promise 2, first half: ranks, quiet patterns and bases.

// wantBasis requires the basis whose sums are just the given sets, each one once.
func wantBasis(t *testing.T, what string, basis []int, ok bool, sets []int) {
	t.Helper()
	if !ok || !isTrueBasis(basis) || !slices.Equal(slices.Sorted(slices.Values(allSums(basis))), sets) {
		t.Errorf("%s: %v %v is not the basis of %d sets", what, basis, ok, len(sets))
	}
}

func TestBases(t *testing.T) {
	for _, tr := range truths() {
		g := tr.graph()
		quiet, ok := impl.QuietBasis(g)
		wantBasis(t, tr.text()+" quiet", quiet, ok, tr.quiet())
		image, ok := impl.ImageBasis(g)
		wantBasis(t, tr.text()+" image", image, ok, tr.image())
	}
}

func TestRankAndNullity(t *testing.T) {
	for _, tr := range truths() {
		g := tr.graph()
		rank, ok := impl.RankOf(g)
		wantNumber(t, tr.text()+" sets to its power", power(rank), ok, len(tr.image()))
		nullity, ok := impl.NullityOf(g)
		wantNumber(t, tr.text()+" quiet to its power", power(nullity), ok, len(tr.quiet()))
		wantNumber(t, tr.text()+" rank and nullity", rank+nullity, ok, tr.n)
		count, ok := impl.CountSolvable(g)
		wantNumber(t, tr.text()+" can be solved", count, ok, len(tr.image()))
	}
}

func TestNullitiesOfGrids(t *testing.T) {
	for _, c := range []struct{ rows, columns, nullity int }{
		{1, 1, 0}, {1, 2, 1}, {1, 3, 0}, {1, 5, 1}, {1, 14, 1}, {1, 16, 0}, {2, 2, 0}, {2, 3, 2}, {2, 4, 0}, {2, 5, 1}, {3, 3, 0}, {3, 4, 0}, {3, 5, 3}, {4, 4, 4},
	} {
		g, _ := impl.GridGraph(c.rows, c.columns, true)
		x, ok := impl.NullityOf(g)
		wantNumber(t, fmt.Sprint("grid ", c), x, ok, c.nullity)
		g, _ = impl.GridGraph(c.columns, c.rows, true)
		x, ok = impl.NullityOf(g)
		wantNumber(t, fmt.Sprint("turned grid ", c), x, ok, c.nullity)
	}
}

func TestSolveExamples(t *testing.T) {
	g := modelOf(2, true, [2]int{0, 1}).graph()
	list, ok := impl.QuietBasis(g)
	wantList(t, "quiet basis", list, ok, []int{3})
	list, ok = impl.ImageBasis(g)
	wantList(t, "image basis", list, ok, []int{3})
	list, ok = impl.QuietPatterns(g)
	wantList(t, "quiet patterns", list, ok, []int{0, 3})
	x, ok := impl.SolveBoard(g, 3)
	wantNumber(t, "solve 3", x, ok, 1)
	answer, ok := impl.CanSolve(g, 1)
	wantAnswer(t, "can solve 1", answer, ok, false)
	x, ok = impl.SolveBoard(g, 1)
	wantNoNumber(t, "solve 1", x, ok)
	x, ok = impl.WitnessOf(g, 1)
	wantNumber(t, "refuse 1", x, ok, 3)
	x, ok = impl.WitnessOf(g, 3)
	wantNoNumber(t, "refuse 3", x, ok)
	list, ok = impl.SolutionsBySize(g, 3)
	wantList(t, "solutions by size", list, ok, []int{0, 2, 0})
	list, ok = impl.SolutionsBySize(g, 2)
	wantList(t, "no solutions by size", list, ok, []int{0, 0, 0})
}

// TestSolveOneButton has the least graphs: with Own there is a solution for each light, without there are quiet patterns alone.
func TestSolveOneButton(t *testing.T) {
	for _, own := range []bool{false, true} {
		g, what := modelOf(1, own).graph(), fmt.Sprint("one button ", own)
		quiet, image, most, patterns := []int{1}, []int{}, 0, []int{0, 1}
		if own {
			quiet, image, most, patterns = []int{}, []int{1}, 1, []int{0}
		}
		list, ok := impl.QuietBasis(g)
		wantList(t, what, list, ok, quiet)
		list, ok = impl.ImageBasis(g)
		wantList(t, what, list, ok, image)
		list, ok = impl.QuietPatterns(g)
		wantList(t, what, list, ok, patterns)
		x, ok := impl.RankOf(g)
		wantNumber(t, what, x, ok, most)
		x, ok = impl.NullityOf(g)
		wantNumber(t, what, x, ok, 1-most)
		lights, x, ok := impl.FarthestBoard(g)
		wantNumber(t, what, lights, ok, most)
		wantNumber(t, what, x, ok, most)
		answer, ok := impl.CanSolve(g, 1)
		wantAnswer(t, what, answer, ok, own)
		list, ok = impl.SolutionsBySize(g, 1)
		wantList(t, what, list, ok, []int{0, most})
		list, ok = impl.SolutionsBySize(g, 0)
		wantList(t, what, list, ok, []int{1, 1 - most})
	}
}

func TestIsQuiet(t *testing.T) {
	d := &dice{state: 21}
	for _, tr := range truths() {
		quiet := tr.quiet()
		sets := append(someLights(tr.model, d), quiet[:min(len(quiet), 40)]...)
		for _, presses := range sets {
			answer, ok := impl.IsQuiet(tr.graph(), presses)
			wantAnswer(t, fmt.Sprint(tr.text(), presses), answer, ok, tr.effects[presses] == 0)
		}
	}
}

func TestQuietPatterns(t *testing.T) {
	for _, tr := range truths() {
		list, ok := impl.QuietPatterns(tr.graph())
		if quiet := tr.quiet(); len(quiet) <= power(8) {
			wantList(t, tr.text(), list, ok, quiet)
		} else {
			wantNoList(t, tr.text(), list, ok)
		}
	}
}

// TestNullityLimit has graphs with the nullities 8 and 9.
func TestNullityLimit(t *testing.T) {
	for _, own := range []bool{false, true} {
		for nullity := 8; nullity <= 9; nullity++ {
			m := modelOf(nullity, false)
			if own {
				m = fullModel(nullity+1, true)
			}
			g := m.graph()
			x, ok := impl.NullityOf(g)
			wantNumber(t, m.text(), x, ok, nullity)
			patterns, ok := impl.QuietPatterns(g)
			solved, fine := impl.SolutionsBySize(g, 0)
			refused, good := impl.SolutionsBySize(g, 1)
			if nullity == 8 {
				wantNumber(t, m.text()+" patterns", len(patterns), ok, 256)
				wantNumber(t, m.text()+" sizes", len(solved), fine, m.n+1)
				wantList(t, m.text()+" sizes without solutions", refused, good, filled(m.n+1, 0))
				continue
			}
			wantNoList(t, m.text()+" patterns", patterns, ok)
			wantNoList(t, m.text()+" sizes", solved, fine)
			wantNoList(t, m.text()+" sizes without solutions", refused, good)
			x, ok = impl.CountSolutions(g, 0)
			wantNumber(t, m.text()+" solutions", x, ok, 512)
		}
	}
}

// someBases gives bases of sets in 1..65535: those of some sums of dice, with all that goes before.
func someBases() [][]int {
	bases := [][]int{nil, {1}, {2}, {3}, {65535}, {32768}, {1, 2}, {1, 2, 4}, {3, 4}, {3, 5}, {2, 5}, {3, 65533}, {1, 65534}}
	var single []int
	for i := range 16 {
		single = append(single, power(i))
	}
	bases = append(bases, single)
	d := &dice{state: 22}
	for range 200 {
		chosen := d.below(power(16))
		var basis []int
		for _, i := range buttonsOf(chosen) {
			basis = append(basis, power(i)+(d.below(power(i))&^chosen))
		}
		bases = append(bases, basis)
	}
	return bases
}

func TestReducedSet(t *testing.T) {
	d := &dice{state: 23}
	for _, basis := range someBases() {
		if !isTrueBasis(basis) {
			t.Fatalf("%v is no basis", basis)
		}
		for _, s := range append([]int{0, 1, 2, 3, 5, 32768, 65535}, d.word(65536, 20)...) {
			// There is just one such set: what is left here is it, as it has none of the greatest elements.
			want := s
			for k := len(basis) - 1; k >= 0; k-- {
				if slices.Contains(buttonsOf(want), top(basis[k])) {
					want ^= basis[k]
				}
			}
			if !hasNone(want, tops(basis)) {
				t.Fatalf("%d by %v leaves %d", s, basis, want)
			}
			x, ok := impl.ReducedSet(basis, s)
			wantNumber(t, fmt.Sprint(basis, s), x, ok, want)
		}
	}
}

func TestReducedSetExamples(t *testing.T) {
	for _, c := range []struct {
		basis   []int
		s, want int
	}{
		{nil, 0, 0}, {nil, 65535, 65535}, {[]int{3}, 2, 1}, {[]int{3}, 3, 0}, {[]int{3}, 1, 1}, {[]int{3, 5}, 6, 0}, {[]int{3, 5}, 4, 1}, {[]int{3, 5}, 7, 1}, {[]int{65535}, 32768, 32767}, {[]int{1}, 65535, 65534},
	} {
		x, ok := impl.ReducedSet(c.basis, c.s)
		wantNumber(t, fmt.Sprint(c), x, ok, c.want)
	}
}

func TestReducedSetInvalid(t *testing.T) {
	for _, basis := range [][]int{
		{0}, {0, 1}, {1, 0}, {-1}, {-3, 1}, {65536}, {1, 65536}, {65537}, {math.MaxInt}, {math.MinInt}, {power(32)}, {power(62)}, {1 + power(32)},
		{1, 1}, {3, 3}, {2, 1}, {4, 2, 1}, {1, 4, 2}, {2, 3}, {3, 2}, {1, 3}, {3, 1}, {4, 5}, {5, 6}, {3, 6}, {3, 7}, {2, 65535}, {3, 65535}, {1, 2, 7}, {1, 2, 4, 5}, {5, 3}, {1, 2, 4, 4},
		filled(17, 1), filled(100000, 1), filled(100000, 65535), filled(100000, 0),
	} {
		for _, s := range []int{0, 1, 3, 65535} {
			x, ok := impl.ReducedSet(basis, s)
			wantNoNumber(t, fmt.Sprintf("%.60v %d", basis, s), x, ok)
		}
	}
	for _, basis := range someBases()[:20] {
		for _, s := range notBelow(65536) {
			x, ok := impl.ReducedSet(basis, s)
			wantNoNumber(t, fmt.Sprint(basis, s), x, ok)
		}
	}
}

// TestReducedSetAllShort has all lists of up to 3 small numbers.
func TestReducedSetAllShort(t *testing.T) {
	for a := -1; a <= 8; a++ {
		for b := -1; b <= 8; b++ {
			for c := -1; c <= 8; c++ {
				for length := range 4 {
					basis := []int{a, b, c}[:length]
					x, ok := impl.ReducedSet(basis, 0)
					if isTrueBasis(basis) {
						wantNumber(t, fmt.Sprint(basis), x, ok, 0)
					} else {
						wantNoNumber(t, fmt.Sprint(basis), x, ok)
					}
				}
			}
		}
	}
}

func TestReducedSetOfSolutions(t *testing.T) {
	d := &dice{state: 24}
	for _, tr := range truths() {
		quiet, _ := impl.QuietBasis(tr.graph())
		image, _ := impl.ImageBasis(tr.graph())
		for _, presses := range someLights(tr.model, d) {
			want, _ := impl.SolveBoard(tr.graph(), tr.effects[presses])
			x, ok := impl.ReducedSet(quiet, presses)
			wantNumber(t, fmt.Sprint(tr.text(), presses), x, ok, want)
			x, ok = impl.ReducedSet(image, tr.effects[presses])
			wantNumber(t, fmt.Sprint(tr.text(), " effect of ", presses), x, ok, 0)
		}
	}
}

func TestBasesInvalidGraphs(t *testing.T) {
	for _, g := range badGraphs() {
		what := fmt.Sprint(g)
		for _, f := range []func(impl.Graph) (int, bool){impl.RankOf, impl.NullityOf, impl.CountSolvable, impl.AllOn} {
			x, ok := f(g)
			wantNoNumber(t, what, x, ok)
		}
		for _, f := range []func(impl.Graph) ([]int, bool){impl.QuietBasis, impl.QuietPatterns, impl.ImageBasis} {
			list, ok := f(g)
			wantNoList(t, what, list, ok)
		}
		lights, x, ok := impl.FarthestBoard(g)
		wantNoNumber(t, what, lights, ok)
		wantNoNumber(t, what, x, ok)
	}
}
