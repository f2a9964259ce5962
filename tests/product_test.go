package tests

import (
	"fmt"
	"slices"
	"testing"

	"loop.example/g01146/impl"
)

// Promise 8, first part: products of graphs, and maps.

func TestProductLimits(t *testing.T) {
	if impl.MaxGrid != 40 {
		t.Error(impl.MaxGrid)
	}
}

// TestProductGraph has all pairs of graphs of up to 4 buttons and of some greater ones.
func TestProductGraph(t *testing.T) {
	for _, a := range someModels() {
		for _, b := range someModels() {
			if a.n > 2 && b.n > 3 && len(a.edges())+len(b.edges()) > 6 {
				continue
			}
			what := a.text() + " and " + b.text()
			g, ok := impl.ProductGraph(a.graph(), b.graph())
			if a.own != b.own || a.n*b.n > 16 {
				wantNoGraph(t, what, g, ok)
			} else {
				wantModel(t, what, g, ok, a.times(b))
			}
		}
	}
}

func TestProductGraphExamples(t *testing.T) {
	for _, c := range []struct{ a, b, want string }{
		{"1:-", "1:-", "1:-"}, {"1+:-", "1+:-", "1+:-"}, {"2:0-1", "1:-", "2:0-1"}, {"1+:-", "3+:0-2", "3+:0-2"}, {"2:0-1", "2:-", "4:0-2,1-3"}, {"2:-", "2:0-1", "4:0-1,2-3"}, {"2+:-", "2+:-", "4+:-"},
		{"2:0-1", "3:0-1", "6:0-1,0-3,1-4,2-5,3-4"}, {"3:0-1", "2:0-1", "6:0-1,0-2,1-3,2-3,4-5"}, {"2+:0-1", "2+:0-1", "4+:0-1,0-2,1-3,2-3"}, {"2:-", "8:6-7", "16:6-7,14-15"}, {"8:6-7", "2:-", "16:12-14,13-15"},
	} {
		g, _ := impl.ParseGraph(c.a)
		h, _ := impl.ParseGraph(c.b)
		p, ok := impl.ProductGraph(g, h)
		text, fine := impl.GraphText(p)
		wantText(t, fmt.Sprint(c), text, ok && fine, c.want)
	}
}

// TestProductsOfLines: paths make grids, and circles make tori.
func TestProductsOfLines(t *testing.T) {
	for _, own := range []bool{false, true} {
		for rows := 1; rows <= 16; rows++ {
			for columns := 1; columns <= 16; columns++ {
				what := fmt.Sprint(rows, " by ", columns, " ", own)
				g, _ := impl.PathGraph(rows, own)
				h, _ := impl.PathGraph(columns, own)
				p, ok := impl.ProductGraph(g, h)
				if rows*columns > 16 {
					wantNoGraph(t, what, p, ok)
					continue
				}
				wantModel(t, what, p, ok, gridModel(rows, columns, own, false))
				g, fine := impl.CircleGraph(rows, own)
				h, good := impl.CircleGraph(columns, own)
				if fine && good {
					p, ok = impl.ProductGraph(g, h)
					wantModel(t, "torus "+what, p, ok, gridModel(rows, columns, own, true))
				}
			}
		}
	}
}

func TestProductGraphInvalid(t *testing.T) {
	for _, bad := range badGraphs() {
		for _, good := range goodGraphs() {
			p, ok := impl.ProductGraph(bad, good)
			wantNoGraph(t, fmt.Sprint(bad, good), p, ok)
			p, ok = impl.ProductGraph(good, bad)
			wantNoGraph(t, fmt.Sprint(good, bad), p, ok)
		}
		p, ok := impl.ProductGraph(bad, bad)
		wantNoGraph(t, fmt.Sprint(bad, bad), p, ok)
	}
	for a := 1; a <= 16; a++ {
		for b := 1; b <= 16; b++ {
			for _, own := range []bool{false, true} {
				p, ok := impl.ProductGraph(modelOf(a, own).graph(), modelOf(b, !own).graph())
				wantNoGraph(t, fmt.Sprint("another Own ", a, b), p, ok)
				p, ok = impl.ProductGraph(fullModel(a, own).graph(), modelOf(b, own).graph())
				if a*b > 16 {
					wantNoGraph(t, fmt.Sprint("too many ", a, b), p, ok)
				} else {
					wantModel(t, fmt.Sprint("as many as fit ", a, b), p, ok, fullModel(a, own).times(modelOf(b, own)))
				}
			}
		}
	}
}

func TestToggleMap(t *testing.T) {
	for _, m := range someModels() {
		list, ok := impl.ToggleMap(m.graph())
		wantList(t, m.text(), list, ok, m.toggleMap())
	}
	for text, want := range map[string][]int{"1:-": {0}, "1+:-": {1}, "2:-": {0, 0}, "2+:0-1": {3, 3}, "3+:0-1,1-2": {3, 7, 6}, "3:0-1,1-2": {2, 5, 2}, "16:-": filled(16, 0)} {
		g, _ := impl.ParseGraph(text)
		list, ok := impl.ToggleMap(g)
		wantList(t, text, list, ok, want)
	}
	for _, bad := range badGraphs() {
		list, ok := impl.ToggleMap(bad)
		wantNoList(t, fmt.Sprint(bad), list, ok)
	}
}

// someSets gives all sets of few numbers, and some of more.
func someSets(n int, d *dice) []int { return someLights(modelOf(n, false), d) }

func TestApplyMap(t *testing.T) {
	d := &dice{state: 102}
	for _, m := range someMaps() {
		r := relationOf(m)
		for _, s := range someSets(len(m), d) {
			x, ok := impl.ApplyMap(m, s)
			wantNumber(t, fmt.Sprint(m, " of ", s), x, ok, r.apply(s))
		}
		for _, s := range notBelow(power(len(m))) {
			x, ok := impl.ApplyMap(m, s)
			wantNoNumber(t, fmt.Sprint(m, " of ", s), x, ok)
		}
	}
}

// TestApplyMapOfGraphs: a graph's map takes presses to their effect.
func TestApplyMapOfGraphs(t *testing.T) {
	d := &dice{state: 103}
	for _, m := range someModels() {
		list, _ := impl.ToggleMap(m.graph())
		for _, presses := range someLights(m, d) {
			want, _ := impl.EffectOf(m.graph(), presses)
			x, ok := impl.ApplyMap(list, presses)
			wantNumber(t, fmt.Sprint(m.text(), presses), x, ok, want)
		}
	}
}

func TestApplyMapExamples(t *testing.T) {
	for _, c := range []struct {
		m       []int
		s, want int
	}{
		{[]int{0}, 0, 0}, {[]int{0}, 1, 0}, {[]int{1}, 0, 0}, {[]int{1}, 1, 1}, {[]int{3, 3}, 1, 3}, {[]int{3, 3}, 3, 0}, {[]int{2, 1}, 1, 2}, {[]int{3, 7, 6}, 5, 5}, {filled(16, 65535), 65535, 0}, {filled(16, 65535), 32768, 65535},
	} {
		x, ok := impl.ApplyMap(c.m, c.s)
		wantNumber(t, fmt.Sprint(c), x, ok, c.want)
	}
}

// TestTwoMaps composes and adds maps of as many sets, and refuses others.
func TestTwoMaps(t *testing.T) {
	bySize := map[int][][]int{}
	for _, m := range someMaps() {
		bySize[len(m)] = append(bySize[len(m)], m)
	}
	for n, same := range bySize {
		for _, a := range same {
			for _, b := range same {
				r, q := relationOf(a), relationOf(b)
				list, ok := impl.ComposeMaps(a, b)
				wantList(t, fmt.Sprint(a, " behind ", b), list, ok, r.after(q).list())
				list, ok = impl.AddMaps(a, b)
				wantList(t, fmt.Sprint(a, " plus ", b), list, ok, r.plus(q).list())
			}
			for k, others := range bySize {
				if k != n {
					wantNoPair(t, a, others[0])
					wantNoPair(t, a, others[len(others)-1])
				}
			}
		}
	}
}

func wantNoPair(t *testing.T, a, b []int) {
	t.Helper()
	list, ok := impl.ComposeMaps(a, b)
	wantNoList(t, fmt.Sprint(a, " behind ", b), list, ok)
	list, ok = impl.AddMaps(a, b)
	wantNoList(t, fmt.Sprint(a, " plus ", b), list, ok)
}

func TestTwoMapsExamples(t *testing.T) {
	for _, c := range []struct{ a, b, behind, sum []int }{
		{[]int{0}, []int{0}, []int{0}, []int{0}}, {[]int{0}, []int{1}, []int{0}, []int{1}}, {[]int{1}, []int{1}, []int{1}, []int{0}}, {[]int{3, 3}, []int{3, 3}, []int{0, 0}, []int{0, 0}},
		{[]int{2, 1}, []int{0, 1}, []int{0, 2}, []int{2, 0}}, {[]int{0, 1}, []int{2, 1}, []int{1, 0}, []int{2, 0}}, {[]int{2, 0}, []int{0, 1}, []int{0, 2}, []int{2, 1}}, {[]int{2, 4, 1}, []int{1, 1, 7}, []int{2, 2, 7}, []int{3, 5, 6}},
		{filled(16, 0), filled(16, 65535), filled(16, 0), filled(16, 65535)},
	} {
		list, ok := impl.ComposeMaps(c.a, c.b)
		wantList(t, fmt.Sprint(c), list, ok, c.behind)
		list, ok = impl.AddMaps(c.a, c.b)
		wantList(t, fmt.Sprint(c), list, ok, c.sum)
	}
	wantNoPair(t, []int{0}, []int{0, 0})
	wantNoPair(t, []int{0, 0}, []int{0})
	wantNoPair(t, filled(16, 0), filled(15, 0))
	wantNoPair(t, filled(17, 0), filled(17, 0))
}

// wantNoMap requires all functions that take a map to refuse a list.
func wantNoMap(t *testing.T, what string, m []int) {
	t.Helper()
	for _, s := range []int{0, 1, 2, 7, -1} {
		x, ok := impl.ApplyMap(m, s)
		wantNoNumber(t, "ApplyMap "+what, x, ok)
		list, ok := impl.MapOfPoly(m, s)
		wantNoList(t, "MapOfPoly "+what, list, ok)
	}
	x, ok := impl.NullityOfMap(m)
	wantNoNumber(t, "NullityOfMap "+what, x, ok)
	x, ok = impl.MinimalPoly(m)
	wantNoNumber(t, "MinimalPoly "+what, x, ok)
	wantNoPair(t, m, m)
	if n := len(m); n >= 1 && n <= 16 {
		wantNoPair(t, m, filled(n, 0))
		wantNoPair(t, filled(n, 0), m)
		wantNoPair(t, m, identityOf(n).list())
		wantNoPair(t, identityOf(n).list(), m)
	}
}

func TestMapsInvalid(t *testing.T) {
	for _, m := range badMaps() {
		wantNoMap(t, fmt.Sprint(m), m)
	}
	for n := 1; n <= 16; n++ {
		for _, set := range notBelow(power(n)) {
			for k := range n {
				m := filled(n, 0)
				m[k] = set
				wantNoMap(t, fmt.Sprint(m), m)
			}
		}
	}
}

// TestAllMapsOfTwo has all lists of two numbers that are small.
func TestAllMapsOfTwo(t *testing.T) {
	for a := -2; a <= 6; a++ {
		for b := -2; b <= 6; b++ {
			m := []int{a, b}
			if min(a, b) < 0 || max(a, b) > 3 {
				wantNoMap(t, fmt.Sprint(m), m)
				continue
			}
			x, ok := impl.NullityOfMap(m)
			wantNumber(t, fmt.Sprint(m), power(x), ok, relationOf(m).taken())
		}
	}
}

func TestMapsAreKept(t *testing.T) {
	m := []int{3, 7, 6, 9}[:3]
	for range 2 {
		list, ok := impl.ComposeMaps(m, m)
		wantList(t, "behind itself", list, ok, []int{4, 5 ^ 7, 1})
		list, ok = impl.AddMaps(m, m)
		wantList(t, "plus itself", list, ok, []int{0, 0, 0})
		list, ok = impl.MapOfPoly(m, 2)
		wantList(t, "x of it", list, ok, []int{3, 7, 6})
		list[0] = 99
		if !slices.Equal(m, []int{3, 7, 6}) || m[:4][3] != 9 {
			t.Error("changed:", m[:4])
		}
	}
}
