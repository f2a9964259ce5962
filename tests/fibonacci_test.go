package tests

import (
	"fmt"
	"math"
	"testing"

	"loop.example/g01146/impl"
)

// Promise 4, third part: Fibonacci's polynomials with their divisors.

// fibonaccis returns F(0), F(1), .., F(41).
func fibonaccis() []int {
	list := []whole{{}, {1}}
	for n := 2; n <= 41; n++ {
		next := append(whole{0}, list[n-1]...)
		for k, times := range list[n-2] {
			next = next.plus(k, times)
		}
		list = append(list, next)
	}
	var numbers []int
	for _, w := range list {
		numbers = append(numbers, w.number())
	}
	return numbers
}

func TestFibonacciPoly(t *testing.T) {
	for n, want := range fibonaccis() {
		x, ok := impl.FibonacciPoly(n)
		wantNumber(t, fmt.Sprint("F of ", n), x, ok, want)
	}
	for n, want := range []int{0, 1, 2, 5, 8, 17 + 4, 34} {
		x, ok := impl.FibonacciPoly(n)
		wantNumber(t, fmt.Sprint("F of ", n), x, ok, want)
	}
	x, ok := impl.FibonacciPoly(32)
	wantNumber(t, "F of 32", x, ok, power(31))
	x, ok = impl.FibonacciPoly(41)
	degree, fine := impl.DegreeOf(x)
	wantNumber(t, "degree of F of 41", degree, ok && fine, 40)
	for _, n := range append(notBelow(42), 63, 64, 65, math.MinInt+1) {
		x, ok := impl.FibonacciPoly(n)
		wantNoNumber(t, fmt.Sprint("F of ", n), x, ok)
	}
}

// TestCommonDivisorsOfFibonacci: that of F(m) and F(n) is F of that of m and n.
func TestCommonDivisorsOfFibonacci(t *testing.T) {
	for m := range 42 {
		for n := range 42 {
			common := max(m, n)
			for common > 0 && (m%common > 0 || n%common > 0) {
				common--
			}
			p, fine := impl.FibonacciPoly(m)
			q, good := impl.FibonacciPoly(n)
			want, known := impl.FibonacciPoly(common)
			x, ok := impl.GcdPoly(p, q)
			wantNumber(t, fmt.Sprint("common divisor of F of ", m, " and ", n), x, ok && fine && good && known, want)
		}
	}
}

func TestFirstFibonacci(t *testing.T) {
	for p := 2; p < power(11); p++ {
		// The remainders of all of them have a degree less than that of p.
		degree := degreeOf(p)
		n, before, f := 1, 0, 1
		for f != 0 && n <= 5000 {
			next := f*2 ^ before
			if next >= power(degree) {
				next ^= p
			}
			n, before, f = n+1, f, next
		}
		x, ok := impl.FirstFibonacci(p)
		if n > 5000 {
			wantNoNumber(t, fmt.Sprint("first of ", p), x, ok)
			continue
		}
		wantNumber(t, fmt.Sprint("first of ", p), x, ok, n)
	}
	for p, want := range map[int]int{2: 2, 3: 3, 4: 4, 5: 3, 6: 6, 7: 5, 8: 4, 21: 5, 34: 6, power(10): 16, 9: 15} {
		x, ok := impl.FirstFibonacci(p)
		wantNumber(t, fmt.Sprint("first of ", p), x, ok, want)
	}
	for _, p := range []int{0, 1, power(11), power(11) + 1, power(12) - 1, power(40), power(41) - 1} {
		x, ok := impl.FirstFibonacci(p)
		wantNoNumber(t, fmt.Sprint("first of ", p), x, ok)
	}
}

// TestFibonacciWithDivisors: a polynomial divides just those with a multiple of its first number.
func TestFibonacciWithDivisors(t *testing.T) {
	list := fibonaccis()
	for p := 2; p < power(11); p++ {
		first, ok := impl.FirstFibonacci(p)
		if !ok || first < 1 {
			t.Errorf("first of %d: %d %v", p, first, ok)
			continue
		}
		for n, f := range list {
			_, left, ok := impl.DividePoly(f, p)
			if !ok || (left == 0) != (n%first == 0) {
				t.Errorf("F of %d by %d, first %d: %d %v", n, p, first, left, ok)
			}
		}
	}
}
