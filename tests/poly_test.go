package tests

import (
	"fmt"
	"math"
	"testing"

	"loop.example/g01146/impl"
)

// Promise 4, first part: polynomials divide.

func TestDegreeOf(t *testing.T) {
	for _, p := range somePolys(&dice{state: 61}) {
		x, ok := impl.DegreeOf(p)
		wantNumber(t, fmt.Sprint("degree of ", p), x, ok, degreeOf(p))
	}
	for p, want := range map[int]int{0: -1, 1: 0, 2: 1, 3: 1, 4: 2, 7: 2, 8: 3, power(40): 40, power(41) - 1: 40, power(40) - 1: 39} {
		x, ok := impl.DegreeOf(p)
		wantNumber(t, fmt.Sprint("degree of ", p), x, ok, want)
	}
}

func TestTimesPoly(t *testing.T) {
	d := &dice{state: 62}
	check := func(p, q int) {
		t.Helper()
		x, ok := impl.TimesPoly(p, q)
		what := fmt.Sprint(p, " times ", q)
		if p != 0 && q != 0 && degreeOf(p)+degreeOf(q) > 40 {
			wantNoNumber(t, what, x, ok)
			return
		}
		wantNumber(t, what, x, ok, timesOf(p, q))
	}
	for p := range 64 {
		for q := range 64 {
			check(p, q)
		}
	}
	for i := range 41 {
		for j := range 41 {
			check(d.polyOf(i), d.polyOf(j))
			check(power(i), power(j))
			check(power(i+1)-1, power(j+1)-1)
		}
		check(0, d.polyOf(i))
		check(d.polyOf(i), 0)
	}
}

func TestTimesPolyAtLimit(t *testing.T) {
	for _, c := range [][3]int{{power(20), power(20), power(40)}, {1, power(41) - 1, power(41) - 1}, {power(41) - 1, 1, power(41) - 1}, {3, power(40) - 1, power(40) + 1}, {0, power(41) - 1, 0}, {power(40), 0, 0}} {
		x, ok := impl.TimesPoly(c[0], c[1])
		wantNumber(t, fmt.Sprint(c), x, ok, c[2])
	}
	for _, c := range [][2]int{{power(20), power(21)}, {2, power(40)}, {power(41) - 1, 3}, {power(40), power(40)}, {power(31), power(32)}} {
		x, ok := impl.TimesPoly(c[0], c[1])
		wantNoNumber(t, fmt.Sprint(c), x, ok)
	}
}

// TestDividePoly has the quotient times the divisor and the remainder come back.
func TestDividePoly(t *testing.T) {
	d := &dice{state: 63}
	polys := somePolys(d)
	check := func(p, q int) {
		t.Helper()
		quotient, left, ok := impl.DividePoly(p, q)
		if !ok || quotient < 0 || left < 0 || degreeOf(left) >= degreeOf(q) || timesOf(quotient, q)^left != p {
			t.Errorf("%d by %d: %d %d %v", p, q, quotient, left, ok)
		}
	}
	for _, p := range polys {
		for _, q := range polys {
			if q != 0 {
				check(p, q)
			}
		}
	}
}

func TestDividePolyExamples(t *testing.T) {
	for _, c := range [][4]int{{8, 7, 3, 1}, {0, 1, 0, 0}, {1, 1, 1, 0}, {1, 2, 0, 1}, {0, power(40), 0, 0}, {power(40), 1, power(40), 0}, {power(41) - 1, power(40), 1, power(40) - 1}, {5, 3, 3, 0}} {
		quotient, left, ok := impl.DividePoly(c[0], c[1])
		wantNumber(t, fmt.Sprint(c, " quotient"), quotient, ok, c[2])
		wantNumber(t, fmt.Sprint(c, " remainder"), left, ok, c[3])
	}
	for _, p := range []int{0, 1, 7, power(40)} {
		quotient, left, ok := impl.DividePoly(p, 0)
		wantNoNumber(t, "by 0", quotient, ok)
		wantNoNumber(t, "by 0", left, ok)
	}
}

// divisorsBelow64 has for each polynomial below 64 its divisors below 64.
func divisorsBelow64() [64]map[int]bool {
	var divisors [64]map[int]bool
	for p := range divisors {
		divisors[p] = map[int]bool{}
	}
	for p := range 64 {
		for q := range 64 {
			if x := timesOf(p, q); x < 64 {
				divisors[x][p] = true
			}
		}
	}
	return divisors
}

func TestGcdPolyOfSmall(t *testing.T) {
	divisors := divisorsBelow64()
	for p := range 64 {
		for q := range 64 {
			best := 0
			for c := range divisors[p] {
				// Among the divisors of 0 and 0 none has the greatest degree.
				if p+q > 0 && divisors[q][c] && degreeOf(c) > degreeOf(best) {
					best = c
				}
			}
			x, ok := impl.GcdPoly(p, q)
			wantNumber(t, fmt.Sprint("common divisor of ", p, " ", q), x, ok, best)
		}
	}
}

// TestGcdPolyOfLarge puts a divisor into two polynomials: it is in theirs, and what is left of them has none.
func TestGcdPolyOfLarge(t *testing.T) {
	d := &dice{state: 64}
	for range 3000 {
		common, p, q := d.polyOf(d.below(21)), d.polyOf(d.below(21)), d.polyOf(d.below(21))
		x, ok := impl.GcdPoly(p, q)
		what := fmt.Sprint("common divisor of ", p, " ", q, " ", common)
		if !ok || x < 1 || leftOf(p, x) != 0 || leftOf(q, x) != 0 {
			t.Errorf("%s: %d %v", what, x, ok)
			continue
		}
		y, ok := impl.GcdPoly(timesOf(p, common), timesOf(q, common))
		wantNumber(t, what, y, ok, timesOf(x, common))
	}
	for _, c := range [][3]int{{0, 0, 0}, {0, power(40), power(40)}, {power(41) - 1, 0, power(41) - 1}, {power(40), 1, 1}, {1, 0, 1}, {5, 3, 3}, {power(40) + 1, power(20) + 1, power(20) + 1}, {power(40), power(39), power(39)}} {
		x, ok := impl.GcdPoly(c[0], c[1])
		wantNumber(t, fmt.Sprint(c), x, ok, c[2])
	}
}

func TestPowerModulo(t *testing.T) {
	d := &dice{state: 65}
	polys := append(somePolys(d), 0, 1)
	for degree := 1; degree <= 20; degree++ {
		for _, m := range []int{power(degree), power(degree+1) - 1, d.polyOf(degree), d.polyOf(degree)} {
			for _, p := range []int{0, 1, 2, 3, power(40), polys[d.below(len(polys))], polys[d.below(len(polys))]} {
				want := 1
				for k := range 40 {
					x, ok := impl.PowerModulo(p, k, m)
					wantNumber(t, fmt.Sprint(p, " to the power ", k, " by ", m), x, ok, want)
					want = leftOf(timesOf(want, leftOf(p, m)), m)
				}
			}
		}
	}
}

// TestGreatPowersModulo has powers that come again and again.
func TestGreatPowersModulo(t *testing.T) {
	for m := 2; m < 64; m++ {
		for p := range 16 {
			powers := []int{1}
			for range 200 {
				powers = append(powers, leftOf(timesOf(powers[len(powers)-1], p), m))
			}
			// Behind 64 powers they go round in circles, of at most 64 powers each.
			round := 1
			for powers[64] != powers[64+round] {
				round++
			}
			for _, k := range []int{64, 1000, 1023, 1024, 65535, 65536, 524288, 999999, 1000000} {
				x, ok := impl.PowerModulo(p, k, m)
				wantNumber(t, fmt.Sprint(p, " to the power ", k, " by ", m), x, ok, powers[64+(k-64)%round])
			}
		}
	}
}

// TestPowersOfX goes through all powers of x by polynomials with the greatest degree.
func TestPowersOfX(t *testing.T) {
	for _, m := range []int{power(20) + 9, power(21) - 1, power(20), power(20) + power(19) + 1} {
		want := 1
		for k := range 1000001 {
			if k%997 == 0 || k == 1000000 || k < 50 {
				x, ok := impl.PowerModulo(2, k, m)
				wantNumber(t, fmt.Sprint("x to the power ", k, " by ", m), x, ok, want)
			}
			want *= 2
			if want >= power(20) {
				want ^= m
			}
		}
	}
}

func TestPowerModuloLimits(t *testing.T) {
	for _, c := range [][4]int{{0, 0, 2, 1}, {0, 1, 2, 0}, {power(40), 1, power(20), 0}, {power(41) - 1, 0, 3, 1}, {power(41) - 1, 1, 3, 1}, {1, 1000000, power(21) - 1, 1}, {0, 1000000, 2, 0}, {2, 20, power(20) + 1, 1}, {2, 19, power(20), power(19)}} {
		x, ok := impl.PowerModulo(c[0], c[1], c[2])
		wantNumber(t, fmt.Sprint(c), x, ok, c[3])
	}
	for _, c := range [][3]int{{2, -1, 7}, {2, 1000001, 7}, {2, math.MinInt, 7}, {2, math.MaxInt, 7}, {2, 3, 0}, {2, 3, 1}, {2, 3, power(21)}, {2, 3, power(22) - 1}, {0, 0, 1}, {0, 0, 0}, {2, 0, power(40)}} {
		x, ok := impl.PowerModulo(c[0], c[1], c[2])
		wantNoNumber(t, fmt.Sprint(c), x, ok)
	}
}

func TestShiftPoly(t *testing.T) {
	for _, p := range somePolys(&dice{state: 66}) {
		// The powers of x + 1 have the numbers of choices as coefficients.
		want := whole{}
		for _, k := range buttonsOf(p) {
			row := whole{1}
			for range k {
				row = row.times(whole{1, 1})
			}
			for j, times := range row {
				want = want.plus(j, times%2)
			}
		}
		x, ok := impl.ShiftPoly(p)
		wantNumber(t, fmt.Sprint("shift of ", p), x, ok, want.number())
		y, ok := impl.ShiftPoly(x)
		wantNumber(t, fmt.Sprint("shift of that of ", p), y, ok, p)
	}
	for p, want := range map[int]int{0: 0, 1: 1, 2: 3, 3: 2, 7: 7, 4: 5, 8: 15, power(32): power(32) + 1, power(40): power(40) + power(32) + power(8) + 1} {
		x, ok := impl.ShiftPoly(p)
		wantNumber(t, fmt.Sprint("shift of ", p), x, ok, want)
	}
}

func TestReversedPoly(t *testing.T) {
	for _, p := range somePolys(&dice{state: 67}) {
		want := 0
		for _, k := range buttonsOf(p) {
			want += power(degreeOf(p) - k)
		}
		x, ok := impl.ReversedPoly(p)
		wantNumber(t, fmt.Sprint("reverse of ", p), x, ok, want)
	}
	for p, want := range map[int]int{0: 0, 1: 1, 2: 1, 6: 3, 11: 13, 12: 3, power(40): 1, power(40) + 2: power(39) + 1} {
		x, ok := impl.ReversedPoly(p)
		wantNumber(t, fmt.Sprint("reverse of ", p), x, ok, want)
	}
}

func TestDerivativeOf(t *testing.T) {
	for _, p := range somePolys(&dice{state: 68}) {
		want := whole{}
		for _, k := range buttonsOf(p) {
			if k > 0 {
				want = want.plus(k-1, k)
			}
		}
		x, ok := impl.DerivativeOf(p)
		wantNumber(t, fmt.Sprint("derivative of ", p), x, ok, want.number())
	}
	for p, want := range map[int]int{0: 0, 1: 0, 2: 1, 4: 0, 8: 4, 15: 5, power(39): power(38), power(40): 0} {
		x, ok := impl.DerivativeOf(p)
		wantNumber(t, fmt.Sprint("derivative of ", p), x, ok, want)
	}
}

// polyCalls has each function with a polynomial in each place where it takes one; the other arguments are valid.
func polyCalls() map[string]func(p int) ([]int, bool) {
	divided := func(quotient, left int, ok bool) ([]int, bool) {
		if quotient == 0 && left == 0 {
			return nil, ok
		}
		return []int{quotient, left}, ok
	}
	return map[string]func(p int) ([]int, bool){
		"DegreeOf":         func(p int) ([]int, bool) { return asList(impl.DegreeOf(p)) },
		"TimesPoly first":  func(p int) ([]int, bool) { return asList(impl.TimesPoly(p, 1)) },
		"TimesPoly second": func(p int) ([]int, bool) { return asList(impl.TimesPoly(1, p)) },
		"TimesPoly and 0":  func(p int) ([]int, bool) { return asList(impl.TimesPoly(p, 0)) },
		"TimesPoly 0 and":  func(p int) ([]int, bool) { return asList(impl.TimesPoly(0, p)) },
		"DividePoly":       func(p int) ([]int, bool) { return divided(impl.DividePoly(p, 7)) },
		"DividePoly by":    func(p int) ([]int, bool) { return divided(impl.DividePoly(7, p)) },
		"GcdPoly first":    func(p int) ([]int, bool) { return asList(impl.GcdPoly(p, 0)) },
		"GcdPoly second":   func(p int) ([]int, bool) { return asList(impl.GcdPoly(0, p)) },
		"PowerModulo":      func(p int) ([]int, bool) { return asList(impl.PowerModulo(p, 0, 7)) },
		"PowerModulo by":   func(p int) ([]int, bool) { return asList(impl.PowerModulo(7, 1, p)) },
		"ShiftPoly":        func(p int) ([]int, bool) { return asList(impl.ShiftPoly(p)) },
		"ReversedPoly":     func(p int) ([]int, bool) { return asList(impl.ReversedPoly(p)) },
		"DerivativeOf":     func(p int) ([]int, bool) { return asList(impl.DerivativeOf(p)) },
		"FactorsOf":        impl.FactorsOf,
		"OrderOfPoly":      func(p int) ([]int, bool) { return asList(impl.OrderOfPoly(p)) },
		"FirstFibonacci":   func(p int) ([]int, bool) { return asList(impl.FirstFibonacci(p)) },
	}
}

func TestNoPolys(t *testing.T) {
	for _, p := range noPolys() {
		for name, call := range polyCalls() {
			list, ok := call(p)
			wantNoList(t, fmt.Sprint(name, " ", p), list, ok)
		}
		answer, ok := impl.IsIrreducible(p)
		wantNoAnswer(t, fmt.Sprint(p), answer, ok)
		text, ok := impl.PolyText(p)
		wantNoText(t, fmt.Sprint(p), text, ok)
	}
}
