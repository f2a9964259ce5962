package tests

import (
	"fmt"
	"slices"
	"sync"
	"testing"

	"loop.example/g01146/impl"
)

// Promise 4, second part: polynomials factor and come back.

// hasFactors tells for each polynomial up to a degree of 20 whether it is a product of two with a lesser degree: an account that makes all multiples and divides none.
var hasFactors = sync.OnceValue(func() []bool {
	marks := make([]bool, power(21))
	for q := 2; degreeOf(q) <= 10; q++ {
		if marks[q] {
			continue
		}
		multiples := []int{0}
		for k := range 21 - degreeOf(q) {
			for _, p := range slices.Clone(multiples) {
				multiples = append(multiples, p^q*power(k))
			}
		}
		for _, p := range multiples {
			if p != q {
				marks[p] = true
			}
		}
	}
	return marks
})

// factorPolys gives all polynomials up to a degree of 12, and some up to one of 20.
func factorPolys() []int {
	list := []int{power(20), power(20) + 1, power(20) + 9, power(21) - 1, power(21) - 2}
	for p := range power(13) {
		list = append(list, p)
	}
	for p := power(13); p < power(21); p += 173 {
		list = append(list, p)
	}
	return list
}

func TestIsIrreducible(t *testing.T) {
	for _, p := range factorPolys() {
		answer, ok := impl.IsIrreducible(p)
		wantAnswer(t, fmt.Sprint(p, " is irreducible"), answer, ok, p > 1 && !hasFactors()[p])
	}
	for p, want := range map[int]bool{0: false, 1: false, 2: true, 3: true, 4: false, 5: false, 6: false, 7: true, 11: true, 13: true, 15: false, 19: true, 21: false, 283: true, power(20) + 9: true, power(20): false} {
		answer, ok := impl.IsIrreducible(p)
		wantAnswer(t, fmt.Sprint(p, " is irreducible"), answer, ok, want)
	}
	for _, p := range []int{power(21), power(21) + 1, power(21) + 5, power(22) - 1, power(40), power(41) - 1} {
		answer, ok := impl.IsIrreducible(p)
		wantNoAnswer(t, fmt.Sprint(p), answer, ok)
	}
}

// TestCountsOfIrreducible has the known counts for each degree.
func TestCountsOfIrreducible(t *testing.T) {
	for degree, want := range []int{0, 2, 1, 2, 3, 6, 9, 18, 30, 56, 99, 186, 335} {
		count := 0
		for p := power(degree); p < power(degree+1); p++ {
			if answer, ok := impl.IsIrreducible(p); answer && ok {
				count++
			}
		}
		if count != want {
			t.Errorf("degree %d: %d, want %d", degree, count, want)
		}
	}
}

func TestFactorsOf(t *testing.T) {
	for _, p := range factorPolys() {
		factors, ok := impl.FactorsOf(p)
		what := fmt.Sprint("factors of ", p)
		if p == 0 {
			wantNoList(t, what, factors, ok)
			continue
		}
		product := 1
		for _, q := range factors {
			if q < 2 || q >= power(21) || hasFactors()[q] {
				t.Fatalf("%s: %v", what, factors)
			}
			product = timesOf(product, q)
		}
		if !ok || product != p || !slices.IsSorted(factors) {
			t.Errorf("%s: %v %v", what, factors, ok)
		}
	}
}

// TestFactorsComeBack makes products of irreducible polynomials.
func TestFactorsComeBack(t *testing.T) {
	d := &dice{state: 71}
	for range 3000 {
		want, p := []int{}, 1
		for {
			q := 2 + d.below(power(1+d.below(12)))
			if hasFactors()[q] {
				continue
			}
			if degreeOf(p)+degreeOf(q) > 20 {
				break
			}
			want, p = append(want, q), timesOf(p, q)
		}
		slices.Sort(want)
		factors, ok := impl.FactorsOf(p)
		wantList(t, fmt.Sprint("factors of ", p), factors, ok, want)
	}
}

func TestFactorsOfExamples(t *testing.T) {
	for p, want := range map[int][]int{1: nil, 2: {2}, 3: {3}, 4: {2, 2}, 5: {3, 3}, 6: {2, 3}, 7: {7}, 9: {3, 7}, 21: {7, 7}, 30: {2, 3, 3, 3}, power(20): filled(20, 2), power(20) + 9: {power(20) + 9}} {
		list, ok := impl.FactorsOf(p)
		wantList(t, fmt.Sprint("factors of ", p), list, ok, want)
	}
	for _, p := range []int{0, power(21), power(21) + 1, power(22) - 1, power(40), power(41) - 1} {
		list, ok := impl.FactorsOf(p)
		wantNoList(t, fmt.Sprint("factors of ", p), list, ok)
	}
}

func TestOrderOfPoly(t *testing.T) {
	for p := range power(13) {
		x, ok := impl.OrderOfPoly(p)
		what := fmt.Sprint("order of ", p)
		if p < 2 || p%2 == 0 {
			wantNoNumber(t, what, x, ok)
			continue
		}
		// The remainder of each power of x has a degree less than that of p.
		degree := degreeOf(p)
		order, left := 0, 1
		for order == 0 || left != 1 {
			order, left = order+1, left*2
			if left >= power(degree) {
				left ^= p
			}
		}
		wantNumber(t, what, x, ok, order)
	}
	for p, want := range map[int]int{3: 1, 5: 2, 7: 3, 9: 3, 11: 7, 13: 7, 15: 4, 19: 15, 25: 15, 31: 5, power(12) + 1: 12, power(12) + 64 + 16 + 2 + 1: 4095, power(13) - 1: 13} {
		x, ok := impl.OrderOfPoly(p)
		wantNumber(t, fmt.Sprint("order of ", p), x, ok, want)
		if want <= 40 {
			_, left, ok := impl.DividePoly(power(want)+1, p)
			wantNumber(t, fmt.Sprint(p, " divides"), left, ok, 0)
		}
	}
	for _, p := range []int{0, 1, 2, 4, 6, power(12), power(13), power(13) + 1, power(14) - 1, power(40) + 1} {
		x, ok := impl.OrderOfPoly(p)
		wantNoNumber(t, fmt.Sprint("order of ", p), x, ok)
	}
}
