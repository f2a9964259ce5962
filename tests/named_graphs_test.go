package tests

import (
	"fmt"
	"math"
	"testing"

	"loop.example/g01146/impl"
)

// Promise 1, the graphs that the chapter names.

func TestLineGraphs(t *testing.T) {
	for _, own := range []bool{false, true} {
		for n := 1; n <= 16; n++ {
			path, full := modelOf(n, own), fullModel(n, own)
			for i := 1; i < n; i++ {
				path.join(i-1, i)
			}
			what := fmt.Sprint(n, " ", own)
			g, ok := impl.PathGraph(n, own)
			wantModel(t, "path of "+what, g, ok, path)
			g, ok = impl.FullGraph(n, own)
			wantModel(t, "full graph of "+what, g, ok, full)
			g, ok = impl.CircleGraph(n, own)
			if n < 3 {
				wantNoGraph(t, "circle of "+what, g, ok)
				continue
			}
			path.join(0, n-1)
			wantModel(t, "circle of "+what, g, ok, path)
		}
	}
}

func TestLineGraphsInvalid(t *testing.T) {
	for _, n := range append(notBelow(17), 0, 20, 63, 65) {
		what := fmt.Sprint(n)
		g, ok := impl.PathGraph(n, true)
		wantNoGraph(t, "path of "+what, g, ok)
		g, ok = impl.FullGraph(n, true)
		wantNoGraph(t, "full graph of "+what, g, ok)
		g, ok = impl.CircleGraph(n, true)
		wantNoGraph(t, "circle of "+what, g, ok)
	}
}

func TestNamedTexts(t *testing.T) {
	for text, build := range map[string]func() (impl.Graph, bool){
		"3+:0-1,1-2":                     func() (impl.Graph, bool) { return impl.PathGraph(3, true) },
		"1:-":                            func() (impl.Graph, bool) { return impl.PathGraph(1, false) },
		"4:0-1,0-3,1-2,2-3":              func() (impl.Graph, bool) { return impl.CircleGraph(4, false) },
		"3+:0-1,0-2,1-2":                 func() (impl.Graph, bool) { return impl.CircleGraph(3, true) },
		"4+:0-1,0-2,0-3,1-2,1-3,2-3":     func() (impl.Graph, bool) { return impl.FullGraph(4, true) },
		"6:0-1,0-3,1-2,1-4,2-5,3-4,4-5":  func() (impl.Graph, bool) { return impl.GridGraph(2, 3, false) },
		"6+:0-1,0-2,1-3,2-3,2-4,3-5,4-5": func() (impl.Graph, bool) { return impl.GridGraph(3, 2, true) },
		"9:0-1,0-2,0-3,0-6,1-2,1-4,1-7,2-5,2-8,3-4,3-5,3-6,4-5,4-7,5-8,6-7,6-8,7-8": func() (impl.Graph, bool) { return impl.TorusGraph(3, 3, false) },
	} {
		g, ok := build()
		if s, fine := impl.GraphText(g); !ok || !fine || s != text {
			t.Errorf("%q %v %v, want %q", s, ok, fine, text)
		}
	}
}

// nextTo reports whether two places of a line of n are next to each other, or its ends, if it is closed.
func nextTo(a, b, n int, closed bool) bool {
	apart := max(a, b) - min(a, b)
	return apart == 1 || closed && apart == n-1 && apart > 0
}

func gridModel(rows, columns int, own, closed bool) model {
	m := model{n: rows * columns, own: own}
	for p := range m.n {
		for q := range p {
			sameRow, sameColumn := p/columns == q/columns, p%columns == q%columns
			if sameRow && nextTo(p%columns, q%columns, columns, closed) || sameColumn && nextTo(p/columns, q/columns, rows, closed) {
				m.join(p, q)
			}
		}
	}
	return m
}

func TestGridsAndTori(t *testing.T) {
	for _, own := range []bool{false, true} {
		for rows := -2; rows <= 18; rows++ {
			for columns := -2; columns <= 18; columns++ {
				what := fmt.Sprint(rows, " by ", columns, " ", own)
				fits := rows >= 1 && columns >= 1 && rows*columns <= 16
				g, ok := impl.GridGraph(rows, columns, own)
				if fits {
					wantModel(t, "grid "+what, g, ok, gridModel(rows, columns, own, false))
				} else {
					wantNoGraph(t, "grid "+what, g, ok)
				}
				g, ok = impl.TorusGraph(rows, columns, own)
				if fits && rows >= 3 && columns >= 3 {
					wantModel(t, "torus "+what, g, ok, gridModel(rows, columns, own, true))
				} else {
					wantNoGraph(t, "torus "+what, g, ok)
				}
			}
		}
	}
}

// TestGridsOfGreatNumbers has numbers whose product, as it wraps around, is in 1..16 or 0.
func TestGridsOfGreatNumbers(t *testing.T) {
	great := []int{math.MaxInt, math.MinInt, math.MinInt + 1, power(32), power(62), power(61) + 1, power(60) + 1, -power(62), -1, -3, -4, -16, 0, 1, 2, 3, 4, 16,
		0x2AAAAAAAAAAAAAAB, 0x5555555555555556, 0x4CCCCCCCCCCCCCCD, 5}
	for _, rows := range great {
		for _, columns := range great {
			if rows >= 1 && rows <= 16 && columns >= 1 && columns <= 16 && rows*columns <= 16 {
				continue
			}
			g, ok := impl.GridGraph(rows, columns, true)
			wantNoGraph(t, fmt.Sprint("grid ", rows, columns), g, ok)
			g, ok = impl.TorusGraph(rows, columns, true)
			wantNoGraph(t, fmt.Sprint("torus ", rows, columns), g, ok)
		}
	}
}
