package tests

import (
	"fmt"
	"math"
	"testing"

	"loop.example/g01146/impl"
)

// Promise 8, third part: nullities of products are told by polynomials of maps and by divisors.

// lineCounts looks at all pairs of sets s, t, for n = 0, 1, .., 40: it counts those that are the same behind n steps to T s + t, s, and those for which t is none at first and s is none then.
func (m model) lineCounts() (same, quiet []int) {
	same, quiet = filled(41, 0), filled(41, 0)
	toggled := truthOf(m).effects
	for first := range power(m.n) {
		for second := range power(m.n) {
			s, t := first, second
			for n := range 41 {
				if s == first && t == second {
					same[n]++
				}
				if second == 0 && s == 0 {
					quiet[n]++
				}
				s, t = toggled[s]^t, s
			}
		}
	}
	return same, quiet
}

// TestLineProductsOfSmall has all products of the graphs of up to 4 buttons, and of some of 5 and 6.
func TestLineProductsOfSmall(t *testing.T) {
	for _, m := range someModels() {
		if m.n > 6 {
			continue
		}
		same, quiet := m.lineCounts()
		for n := 1; n <= 40; n++ {
			x, ok := impl.PathProduct(m.graph(), n)
			wantNumber(t, fmt.Sprint("path of ", n, " and ", m.text()), power(x), ok, quiet[n])
			x, ok = impl.CircleProduct(m.graph(), n)
			if n < 3 {
				wantNoNumber(t, fmt.Sprint("circle of ", n, " and ", m.text()), x, ok)
			} else {
				wantNumber(t, fmt.Sprint("circle of ", n, " and ", m.text()), power(x), ok, same[n])
			}
		}
	}
}

// TestLineProducts makes the products, of up to 640 buttons, and eliminates.
func TestLineProducts(t *testing.T) {
	for k, m := range bigModels() {
		for _, n := range []int{1, 2, 3, 4 + k%6, 10 + k%30, 39 + k%2} {
			x, ok := impl.PathProduct(m.graph(), n)
			wantNumber(t, fmt.Sprint("path of ", n, " and ", m.text()), x, ok, netNullity(lineNet(n, false, m.n, m.toggles)))
			if n >= 3 {
				x, ok = impl.CircleProduct(m.graph(), n)
				wantNumber(t, fmt.Sprint("circle of ", n, " and ", m.text()), x, ok, netNullity(lineNet(n, true, m.n, m.toggles)))
			}
		}
	}
}

// TestLineProductsAreProducts compares with the graphs that are small enough to be made.
func TestLineProductsAreProducts(t *testing.T) {
	for _, m := range someModels() {
		for n := 1; n*m.n <= 16; n++ {
			line, _ := impl.PathGraph(n, m.own)
			g, ok := impl.ProductGraph(line, m.graph())
			want, _ := impl.NullityOf(g)
			x, fine := impl.PathProduct(m.graph(), n)
			wantNumber(t, fmt.Sprint("path of ", n, " and ", m.text()), x, ok && fine, want)
			if n < 3 {
				continue
			}
			line, _ = impl.CircleGraph(n, m.own)
			g, ok = impl.ProductGraph(line, m.graph())
			want, _ = impl.NullityOf(g)
			x, fine = impl.CircleProduct(m.graph(), n)
			wantNumber(t, fmt.Sprint("circle of ", n, " and ", m.text()), x, ok && fine, want)
		}
	}
}

func TestLineProductExamples(t *testing.T) {
	for _, c := range []struct {
		text         string
		n            int
		path, circle int
	}{
		{"1:-", 3, 1, 1}, {"1:-", 4, 0, 2}, {"1:-", 39, 1, 1}, {"1:-", 40, 0, 2}, {"1+:-", 3, 0, 2}, {"1+:-", 5, 1, 0}, {"1+:-", 38, 1, 0}, {"1+:-", 39, 0, 2}, {"1+:-", 40, 0, 0},
		{"2:-", 4, 0, 4}, {"16:-", 3, 16, 16}, {"16:-", 40, 0, 32}, {"16+:-", 5, 16, 0}, {"16+:-", 39, 0, 32}, {"16+:-", 40, 0, 0}, {"2+:0-1", 3, 2, 1}, {"2+:0-1", 4, 0, 4}, {"3:0-1,0-2,1-2", 3, 1, 5},
		{"4+:0-1,1-2,2-3", 4, 4, 0}, {"5+:0-1,1-2,2-3,3-4", 5, 2, 1},
	} {
		g, _ := impl.ParseGraph(c.text)
		x, ok := impl.PathProduct(g, c.n)
		wantNumber(t, fmt.Sprint("path ", c), x, ok, c.path)
		x, ok = impl.CircleProduct(g, c.n)
		wantNumber(t, fmt.Sprint("circle ", c), x, ok, c.circle)
	}
}

// TestProductsWithOneRow: one row is the graph itself.
func TestProductsWithOneRow(t *testing.T) {
	for _, m := range someModels() {
		want, _ := impl.NullityOf(m.graph())
		x, ok := impl.PathProduct(m.graph(), 1)
		wantNumber(t, m.text(), x, ok, want)
		single := modelOf(1, m.own)
		g, ok := impl.ProductGraph(single.graph(), m.graph())
		wantModel(t, "one button and "+m.text(), g, ok, m)
		g, ok = impl.ProductGraph(m.graph(), single.graph())
		wantModel(t, m.text()+" and one button", g, ok, m)
	}
	for _, own := range []bool{false, true} {
		for n := 1; n <= 40; n++ {
			want, _ := impl.PathNullity(n, own)
			x, ok := impl.GridNullity(1, n, own)
			wantNumber(t, fmt.Sprint("one row of ", n, " ", own), x, ok, want)
			x, ok = impl.GridNullity(n, 1, own)
			wantNumber(t, fmt.Sprint("one column of ", n, " ", own), x, ok, want)
			x, ok = impl.PathProduct(modelOf(1, own).graph(), n)
			wantNumber(t, fmt.Sprint("path of ", n, " and one button ", own), x, ok, want)
			if n >= 3 {
				want, _ = impl.CircleNullity(n, own)
				x, ok = impl.CircleProduct(modelOf(1, own).graph(), n)
				wantNumber(t, fmt.Sprint("circle of ", n, " and one button ", own), x, ok, want)
			}
		}
	}
}

// TestGridNullity has all grids, with their rows chased.
func TestGridNullity(t *testing.T) {
	for _, own := range []bool{false, true} {
		for columns := 1; columns <= 40; columns++ {
			want := chasedNullities(columns, own)
			for rows := 1; rows <= 40; rows++ {
				x, ok := impl.GridNullity(rows, columns, own)
				wantNumber(t, fmt.Sprint(rows, " by ", columns, " ", own), x, ok, want[rows-1])
			}
			list, ok := impl.GridTable(columns, own)
			wantList(t, fmt.Sprint("table of ", columns, " ", own), list, ok, want[:columns])
		}
	}
}

// TestGridNullityIsTrue compares with what other chapters tell, and with the elimination of great grids.
func TestGridNullityIsTrue(t *testing.T) {
	for _, own := range []bool{false, true} {
		for rows := 1; rows <= 40; rows++ {
			for columns := 1; columns <= 16; columns++ {
				what := fmt.Sprint(rows, " by ", columns, " ", own)
				x, ok := impl.GridNullity(rows, columns, own)
				path, _ := impl.PathGraph(columns, own)
				y, fine := impl.PathProduct(path, rows)
				wantNumber(t, what+" as a product", y, ok && fine, x)
				if columns <= 8 {
					y, fine = impl.NullityByRows(rows, columns, own)
					wantNumber(t, what+" by rows", y, ok && fine, x)
				}
				if g, fits := impl.GridGraph(rows, columns, own); fits {
					y, fine = impl.NullityOf(g)
					wantNumber(t, what+" as a graph", y, ok && fine, x)
				}
				if rows <= 12 && columns <= 12 {
					wantNumber(t, what+" eliminated", netNullity(gridNet(rows, columns, own, false)), ok, x)
				}
			}
		}
	}
	for _, c := range [][2]int{{19, 19}, {40, 39}, {30, 30}, {32, 32}, {23, 35}, {39, 39}, {40, 40}} {
		x, ok := impl.GridNullity(c[0], c[1], true)
		wantNumber(t, fmt.Sprint(c), x, ok, netNullity(gridNet(c[0], c[1], true, false)))
	}
}

// TestGridsTurned: rows and columns may change places.
func TestGridsTurned(t *testing.T) {
	for _, own := range []bool{false, true} {
		for rows := 1; rows <= 40; rows++ {
			for columns := 1; columns <= 40; columns++ {
				want, _ := impl.GridNullity(rows, columns, own)
				x, ok := impl.GridNullity(columns, rows, own)
				wantNumber(t, fmt.Sprint(columns, " by ", rows, " ", own), x, ok, want)
			}
		}
	}
}

func TestGridNullityExamples(t *testing.T) {
	squares := []int{0, 0, 0, 4, 2, 0, 0, 0, 8, 0, 6, 0, 0, 4, 0, 8, 2, 0, 16, 0, 0, 0, 14, 4, 0, 0, 0, 0, 10, 20, 0, 20, 16, 4, 6, 0, 0, 0, 32, 0}
	for k, want := range squares {
		x, ok := impl.GridNullity(k+1, k+1, true)
		wantNumber(t, fmt.Sprint("square of ", k+1), x, ok, want)
		x, ok = impl.GridNullity(k+1, k+1, false)
		wantNumber(t, fmt.Sprint("square without Own of ", k+1), x, ok, k+1)
	}
	for _, c := range []struct {
		columns int
		own     bool
		want    []int
	}{{1, true, []int{0}}, {1, false, []int{1}}, {2, true, []int{1, 0}}, {2, false, []int{0, 2}}, {3, true, []int{0, 2, 0}}, {3, false, []int{1, 0, 3}}, {5, true, []int{1, 1, 3, 0, 2}}, {5, false, []int{1, 2, 1, 0, 5}}} {
		list, ok := impl.GridTable(c.columns, c.own)
		wantList(t, fmt.Sprint(c), list, ok, c.want)
	}
}

// TestTorusNullity has all tori.
func TestTorusNullity(t *testing.T) {
	for _, own := range []bool{false, true} {
		for columns := 3; columns <= 16; columns++ {
			t.Run(fmt.Sprint(columns, " columns ", own), func(t *testing.T) {
				t.Parallel()
				for rows := 3; rows <= 40; rows++ {
					x, ok := impl.TorusNullity(rows, columns, own)
					wantNumber(t, fmt.Sprint(rows, " by ", columns, " ", own), x, ok, netNullity(gridNet(rows, columns, own, true)))
				}
			})
		}
	}
}

func TestTorusNullityIsTrue(t *testing.T) {
	for _, own := range []bool{false, true} {
		for rows := 3; rows <= 16; rows++ {
			for columns := 3; columns <= 16; columns++ {
				what := fmt.Sprint(rows, " by ", columns, " ", own)
				x, ok := impl.TorusNullity(rows, columns, own)
				y, fine := impl.TorusNullity(columns, rows, own)
				wantNumber(t, what+" turned", y, ok && fine, x)
				circle, _ := impl.CircleGraph(columns, own)
				y, fine = impl.CircleProduct(circle, rows)
				wantNumber(t, what+" as a product", y, ok && fine, x)
				if g, fits := impl.TorusGraph(rows, columns, own); fits {
					y, fine = impl.NullityOf(g)
					wantNumber(t, what+" as a graph", y, ok && fine, x)
				}
			}
		}
	}
	for _, c := range []struct {
		rows, columns int
		own           bool
		want          int
	}{{3, 3, true, 4}, {3, 3, false, 5}, {4, 4, true, 0}, {5, 3, true, 2}, {5, 5, true, 8}, {3, 5, false, 1}, {40, 16, true, 0}, {40, 3, true, 4}, {3, 16, true, 4}} {
		x, ok := impl.TorusNullity(c.rows, c.columns, c.own)
		wantNumber(t, fmt.Sprint(c), x, ok, c.want)
	}
}

// wantNoLine requires the functions that take a graph and a number to refuse them.
func wantNoLine(t *testing.T, what string, g impl.Graph, n int) {
	t.Helper()
	x, ok := impl.PathProduct(g, n)
	wantNoNumber(t, "path "+what, x, ok)
	x, ok = impl.CircleProduct(g, n)
	wantNoNumber(t, "circle "+what, x, ok)
}

func TestLineProductsInvalid(t *testing.T) {
	for _, bad := range badGraphs() {
		for _, n := range []int{-1, 0, 1, 3, 40, 41} {
			wantNoLine(t, fmt.Sprint(bad, n), bad, n)
		}
	}
	for _, g := range goodGraphs() {
		for _, n := range append(notBelow(41), 0, 42, 63, 64, 65, math.MinInt+1) {
			wantNoLine(t, fmt.Sprint(g, n), g, n)
		}
		for n := 1; n <= 2; n++ {
			x, ok := impl.CircleProduct(g, n)
			wantNoNumber(t, fmt.Sprint("circle of ", n, g), x, ok)
		}
	}
}

func TestGridsInvalid(t *testing.T) {
	out := append(notBelow(41), 0, 42, 63, 64, 65, -40, math.MaxInt-1, math.MinInt+1)
	for _, own := range []bool{false, true} {
		for _, n := range out {
			for _, other := range append([]int{1, 3, 16, 40}, out...) {
				what := fmt.Sprint(n, " and ", other)
				x, ok := impl.GridNullity(n, other, own)
				wantNoNumber(t, "grid "+what, x, ok)
				x, ok = impl.GridNullity(other, n, own)
				wantNoNumber(t, "turned grid "+what, x, ok)
				x, ok = impl.TorusNullity(n, other, own)
				wantNoNumber(t, "torus "+what, x, ok)
				x, ok = impl.TorusNullity(other, n, own)
				wantNoNumber(t, "turned torus "+what, x, ok)
			}
			list, ok := impl.GridTable(n, own)
			wantNoList(t, fmt.Sprint("table ", n), list, ok)
		}
		for n := 1; n <= 40; n++ {
			for small := 1; small <= 2; small++ {
				x, ok := impl.TorusNullity(small, n, own)
				wantNoNumber(t, fmt.Sprint("torus ", small, n), x, ok)
				x, ok = impl.TorusNullity(n, small, own)
				wantNoNumber(t, fmt.Sprint("torus ", n, small), x, ok)
			}
			for _, wide := range []int{17, 18, 40} {
				x, ok := impl.TorusNullity(n, wide, own)
				wantNoNumber(t, fmt.Sprint("torus ", n, wide), x, ok)
			}
		}
	}
}
