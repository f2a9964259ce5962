package tests

import (
	"math"
	"slices"
	"testing"
)

// whole tells a polynomial by its coefficients, the one of 1 first. They are any numbers, and odd where the program has a power: an account of chapter 4 that counts how often each power is there.
type whole []int

func wholeOf(p int) whole {
	w := whole{}
	for _, k := range buttonsOf(p) {
		w = w.plus(k, 1)
	}
	return w
}

// plus changes the coefficient of one power.
func (w whole) plus(k, times int) whole {
	for len(w) <= k {
		w = append(w, 0)
	}
	w[k] += times
	return w
}

func (w whole) number() int {
	p := 0
	for k, times := range w {
		if times%2 != 0 {
			p += power(k)
		}
	}
	return p
}

// degree is -1 if no coefficient is odd.
func (w whole) degree() int {
	for k, times := range slices.Backward(w) {
		if times%2 != 0 {
			return k
		}
	}
	return -1
}

func (w whole) times(v whole) whole {
	p := whole{}
	for i, a := range w {
		for j, b := range v {
			p = p.plus(i+j, a*b)
		}
	}
	return p
}

// left subtracts multiples of v until the degree is less.
func (w whole) left(v whole) whole {
	w = slices.Clone(w)
	for w.degree() >= v.degree() {
		k := w.degree() - v.degree()
		for j, b := range v {
			w = w.plus(k+j, b%2)
		}
	}
	return w
}

func timesOf(p, q int) int { return wholeOf(p).times(wholeOf(q)).number() }

func leftOf(p, m int) int { return wholeOf(p).left(wholeOf(m)).number() }

func degreeOf(p int) int { return wholeOf(p).degree() }

// polyOf returns one of the polynomials with a degree.
func (d *dice) polyOf(degree int) int {
	p := power(degree)
	for k := range degree {
		p += d.below(2) * power(k)
	}
	return p
}

// somePolys gives all polynomials up to a degree of 5 and a few of each greater one, up to the limit.
func somePolys(d *dice) []int {
	list := []int{}
	for p := range 64 {
		list = append(list, p)
	}
	for degree := 6; degree <= 40; degree++ {
		list = append(list, power(degree), power(degree)+1, power(degree+1)-1)
		for range 4 {
			list = append(list, d.polyOf(degree))
		}
	}
	return list
}

// noPolys gives numbers that are no polynomials.
func noPolys() []int {
	return []int{-1, -2, -3, -64, -power(40), -power(41), power(41), power(41) + 1, power(42) - 1, power(61), power(62), math.MaxInt, math.MinInt, math.MinInt + 1}
}

func TestWhole(t *testing.T) {
	for _, c := range [][]int{
		{timesOf(3, 3), 5}, {timesOf(3, 7), 9}, {timesOf(0, 7), 0}, {timesOf(1, 7), 7}, {timesOf(6, 5), 30},
		{leftOf(8, 7), 1}, {leftOf(9, 7), 0}, {leftOf(5, 2), 1}, {leftOf(6, 8), 6}, {leftOf(0, 1), 0}, {leftOf(9, 1), 0},
		{degreeOf(0), -1}, {degreeOf(1), 0}, {degreeOf(9), 3}, {whole{1, 2, 4}.degree(), 0}, {whole{3, -1, 2}.number(), 3},
	} {
		if c[0] != c[1] {
			t.Errorf("%d, want %d", c[0], c[1])
		}
	}
}
