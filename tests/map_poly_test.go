package tests

import (
	"fmt"
	"testing"

	"loop.example/g01146/impl"
)

// Promise 8, second part: polynomials of maps, and nullities of maps.

func TestMapOfPoly(t *testing.T) {
	d := &dice{state: 111}
	many := somePolys(d)
	for _, m := range someMaps() {
		powers, polys := relationOf(m).powers(), many
		if len(m) == 3 {
			polys = many[:20]
		}
		for _, p := range polys {
			list, ok := impl.MapOfPoly(m, p)
			wantList(t, fmt.Sprint(m, " polynomial ", p), list, ok, polyMap(powers, p).list())
		}
	}
}

// TestMapOfPolyEdges has the polynomials 0, 1 and x, those with the greatest degree, and numbers that are none.
func TestMapOfPolyEdges(t *testing.T) {
	for _, m := range someMaps() {
		n := len(m)
		list, ok := impl.MapOfPoly(m, 0)
		wantList(t, fmt.Sprint(m, " polynomial 0"), list, ok, filled(n, 0))
		list, ok = impl.MapOfPoly(m, 1)
		wantList(t, fmt.Sprint(m, " polynomial 1"), list, ok, identityOf(n).list())
		list, ok = impl.MapOfPoly(m, 2)
		wantList(t, fmt.Sprint(m, " polynomial x"), list, ok, m)
		powers := relationOf(m).powers()
		list, ok = impl.MapOfPoly(m, power(40))
		wantList(t, fmt.Sprint(m, " polynomial x40"), list, ok, powers[40].list())
		list, ok = impl.MapOfPoly(m, power(41)-1)
		wantList(t, fmt.Sprint(m, " all powers"), list, ok, polyMap(powers, power(41)-1).list())
		for _, p := range noPolys() {
			list, ok = impl.MapOfPoly(m, p)
			wantNoList(t, fmt.Sprint(m, " polynomial ", p), list, ok)
		}
	}
}

func TestMapOfPolyExamples(t *testing.T) {
	for _, c := range []struct {
		m    []int
		p    int
		want []int
	}{
		{[]int{0}, 0, []int{0}}, {[]int{0}, 1, []int{1}}, {[]int{0}, 3, []int{1}}, {[]int{0}, power(40), []int{0}}, {[]int{1}, 3, []int{0}}, {[]int{1}, 7, []int{1}}, {[]int{1}, power(41) - 1, []int{1}}, {[]int{1}, power(40) - 1, []int{0}},
		{[]int{3, 3}, 4, []int{0, 0}}, {[]int{3, 3}, 3, []int{2, 1}}, {[]int{2, 3}, 7, []int{0, 0}}, {[]int{2, 1}, 5, []int{0, 0}}, {[]int{2, 0}, 7, []int{3, 2}}, {[]int{3, 7, 6}, 5, []int{5, 0, 5}}, {filled(16, 0), 6, filled(16, 0)},
	} {
		list, ok := impl.MapOfPoly(c.m, c.p)
		wantList(t, fmt.Sprint(c), list, ok, c.want)
	}
}

// TestMapOfProducts: products of polynomials are maps behind each other, in any order, and their sums are sums.
func TestMapOfProducts(t *testing.T) {
	d := &dice{state: 112}
	for _, m := range someMaps() {
		for range 4 {
			p, q := d.polyOf(d.below(21)), d.polyOf(d.below(21))
			product, _ := impl.TimesPoly(p, q)
			a, _ := impl.MapOfPoly(m, p)
			b, _ := impl.MapOfPoly(m, q)
			both, ok := impl.MapOfPoly(m, product)
			list, fine := impl.ComposeMaps(a, b)
			wantList(t, fmt.Sprint(m, p, q), list, ok && fine, both)
			list, fine = impl.ComposeMaps(b, a)
			wantList(t, fmt.Sprint(m, q, p), list, ok && fine, both)
			both, ok = impl.MapOfPoly(m, p^q)
			list, fine = impl.AddMaps(a, b)
			wantList(t, fmt.Sprint(m, p, " plus ", q), list, ok && fine, both)
		}
	}
}

func TestNullityOfMap(t *testing.T) {
	for _, m := range append(allMaps(3), someMaps()...) {
		x, ok := impl.NullityOfMap(m)
		if !ok || x < 0 || x > len(m) || power(x) != relationOf(m).taken() {
			t.Errorf("%v: %d %v, want the power for %d", m, x, ok, relationOf(m).taken())
		}
	}
	for _, m := range someModels() {
		want, _ := impl.NullityOf(m.graph())
		list, _ := impl.ToggleMap(m.graph())
		x, ok := impl.NullityOfMap(list)
		wantNumber(t, m.text(), x, ok, want)
	}
}

func TestNullityOfMapExamples(t *testing.T) {
	for _, c := range []struct {
		m    []int
		want int
	}{{[]int{0}, 1}, {[]int{1}, 0}, {[]int{0, 0}, 2}, {[]int{3, 3}, 1}, {[]int{2, 1}, 0}, {[]int{2, 0}, 1}, {[]int{3, 5, 6}, 1}, {filled(16, 0), 16}, {filled(16, 32768), 15}, {companion(power(16)), 1}, {identityOf(16).list(), 0}} {
		x, ok := impl.NullityOfMap(c.m)
		wantNumber(t, fmt.Sprint(c), x, ok, c.want)
	}
}

// TestMinimalPolyOfSmall takes the first polynomial, as a number, whose map takes all to 0: one with a lesser degree is a lesser number.
func TestMinimalPolyOfSmall(t *testing.T) {
	for _, m := range append(allMaps(3), someMaps()...) {
		if len(m) > 7 {
			continue
		}
		powers, none := relationOf(m).powers(), relation{n: len(m)}
		want := 1
		for polyMap(powers, want) != none {
			want++
		}
		x, ok := impl.MinimalPoly(m)
		wantNumber(t, fmt.Sprint(m), x, ok, want)
	}
}

// TestMinimalPoly requires that all sets are taken to 0, and no longer if a factor is left out: all polynomials that do so are multiples of the least one.
func TestMinimalPoly(t *testing.T) {
	d := &dice{state: 113}
	for _, m := range append(someMaps(), append(bigMaps(d), bigMaps(d)...)...) {
		p, ok := impl.MinimalPoly(m)
		if degree := degreeOf(p); !ok || degree < 1 || degree > len(m) {
			t.Errorf("%v: %d %v", m, p, ok)
			continue
		}
		powers, none := relationOf(m).powers(), relation{n: len(m)}
		if polyMap(powers, p) != none {
			t.Errorf("%v: %d leaves %v", m, p, polyMap(powers, p).list())
		}
		factors, _ := impl.FactorsOf(p)
		for _, q := range factors {
			if less, left, ok := impl.DividePoly(p, q); !ok || left != 0 || polyMap(powers, less) == none {
				t.Errorf("%v: %d is not needed, %d does so, too", m, p, less)
			}
		}
	}
}

// TestMinimalPolyOfCompanions: a companion has its own polynomial, and two beside each other have the least one that both divide.
func TestMinimalPolyOfCompanions(t *testing.T) {
	d := &dice{state: 114}
	for degree := 1; degree <= 16; degree++ {
		for _, p := range append([]int{power(degree), power(degree) + 1, power(degree+1) - 1}, d.polyOf(degree), d.polyOf(degree), d.polyOf(degree)) {
			x, ok := impl.MinimalPoly(companion(p))
			wantNumber(t, fmt.Sprint("companion of ", p), x, ok, p)
		}
	}
	for i := 1; i <= 8; i++ {
		for j := 1; j <= 8; j++ {
			for _, pair := range [][2]int{{d.polyOf(i), d.polyOf(j)}, {power(i), power(j)}, {power(i) + 1, power(j) + 1}} {
				common, _ := impl.GcdPoly(pair[0], pair[1])
				quotient, _, _ := impl.DividePoly(pair[0], common)
				x, ok := impl.MinimalPoly(beside(companion(pair[0]), companion(pair[1])))
				wantNumber(t, fmt.Sprint("companions of ", pair), x, ok, timesOf(quotient, pair[1]))
			}
		}
	}
}

func TestMinimalPolyExamples(t *testing.T) {
	for _, c := range []struct {
		m    []int
		want int
	}{
		{[]int{0}, 2}, {[]int{1}, 3}, {[]int{0, 0}, 2}, {[]int{1, 2}, 3}, {[]int{3, 3}, 4}, {[]int{2, 1}, 5}, {[]int{1, 0}, 6}, {[]int{2, 3}, 7}, {[]int{2, 0}, 4}, {[]int{2, 4, 1}, 9}, {filled(16, 0), 2}, {identityOf(16).list(), 3},
		{filled(16, 65535), 4}, {filled(15, 32767), 6}, {companion(power(16)), power(16)}, {companion(power(17) - 1), power(17) - 1},
	} {
		x, ok := impl.MinimalPoly(c.m)
		wantNumber(t, fmt.Sprint(c), x, ok, c.want)
	}
	// A path's map, without Own, has Fibonacci's polynomial, and with Own the same with x + 1 for x.
	for n := 1; n <= 16; n++ {
		want, _ := impl.FibonacciPoly(n + 1)
		x, ok := impl.MinimalPoly(gridModel(1, n, false, false).toggleMap())
		wantNumber(t, fmt.Sprint("path of ", n), x, ok, want)
		want, _ = impl.ShiftPoly(want)
		x, ok = impl.MinimalPoly(gridModel(1, n, true, false).toggleMap())
		wantNumber(t, fmt.Sprint("path with Own of ", n), x, ok, want)
	}
}
