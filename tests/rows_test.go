package tests

import (
	"fmt"
	"math/big"
	"slices"
	"testing"

	"loop.example/g01146/impl"
)

// Promise 3, second half: rows tell nullities of grids of any length.

// rowOf counts for each light how often the presses of a row toggle it.
func rowOf(columns int, own bool, row int) int {
	return gridModel(1, columns, own, false).press(0, buttonsOf(row)...)
}

// stepper keeps what a row toggles for each row.
type stepper []int

func stepperOf(columns int, own bool) stepper {
	var st stepper
	for row := range power(columns) {
		st = append(st, rowOf(columns, own, row))
	}
	return st
}

// rows returns the rows 0..n of the pattern of a first row.
func (st stepper) rows(first, n int) []int {
	list := []int{first}
	for k := range n {
		before := 0
		if k > 0 {
			before = list[k-1]
		}
		list = append(list, st[list[k]]^before)
	}
	return list
}

// eachWidth gives the columns that patterns may have, with and without own lights.
func eachWidth(do func(what string, columns int, own bool, st stepper)) {
	for columns := 1; columns <= 8; columns++ {
		for _, own := range []bool{false, true} {
			do(fmt.Sprint(columns, " columns ", own), columns, own, stepperOf(columns, own))
		}
	}
}

func someFirsts(columns int, d *dice) []int { return someLights(modelOf(columns, true), d) }

func TestRowToggles(t *testing.T) {
	eachWidth(func(what string, columns int, own bool, st stepper) {
		path, _ := impl.PathGraph(columns, own)
		for row := range power(columns) {
			x, ok := impl.RowToggles(columns, own, row)
			wantNumber(t, fmt.Sprint(what, " row ", row), x, ok, st[row])
			effect, ok := impl.EffectOf(path, row)
			wantNumber(t, fmt.Sprint(what, " effect of ", row), effect, ok, x)
		}
	})
	for _, c := range []struct {
		columns   int
		own       bool
		row, want int
	}{{2, true, 1, 3}, {2, true, 3, 0}, {1, true, 1, 1}, {1, false, 1, 0}, {3, false, 2, 5}, {3, true, 5, 5}, {8, true, 129, 195}, {8, false, 255, 129}, {8, true, 0, 0}} {
		x, ok := impl.RowToggles(c.columns, c.own, c.row)
		wantNumber(t, fmt.Sprint(c), x, ok, c.want)
	}
}

func TestRowBehind(t *testing.T) {
	d := &dice{state: 51}
	eachWidth(func(what string, columns int, own bool, st stepper) {
		for _, first := range someFirsts(columns, d) {
			for k, want := range st.rows(first, 200) {
				x, ok := impl.RowBehind(columns, own, first, k)
				wantNumber(t, fmt.Sprint(what, " first row ", first, " row ", k), x, ok, want)
			}
		}
	})
}

func TestRowBehindExamples(t *testing.T) {
	for k, want := range []int{1, 3, 1, 0, 1, 3, 1, 0} {
		x, ok := impl.RowBehind(2, true, 1, k)
		wantNumber(t, fmt.Sprint("row ", k), x, ok, want)
	}
	for k, want := range []int{1, 1, 0, 1, 1, 0} {
		x, ok := impl.RowBehind(1, true, 1, k)
		wantNumber(t, fmt.Sprint("one column, row ", k), x, ok, want)
	}
	for k, want := range []int{1, 0, 1, 0} {
		x, ok := impl.RowBehind(1, false, 1, k)
		wantNumber(t, fmt.Sprint("one column without own lights, row ", k), x, ok, want)
	}
	answer, ok := impl.IsQuiet(gridModel(3, 2, true, false).graph(), 1+3*4+1*16)
	wantAnswer(t, "three rows of two columns", answer, ok, true)
}

// TestRowsAreChases has the presses of chases without lights, row by row, and what they leave.
func TestRowsAreChases(t *testing.T) {
	d := &dice{state: 52}
	for _, g := range grids() {
		if g.columns > 8 {
			continue
		}
		for _, first := range g.firsts(d) {
			what := fmt.Sprint(g.name(), " first row ", first)
			left, ok := impl.ChaseLeft(g.rows, g.columns, g.own, 0, first)
			x, fine := impl.RowBehind(g.columns, g.own, first, g.rows)
			wantNumber(t, what+" left", left, ok && fine, x)
			presses, ok := impl.ChasePresses(g.rows, g.columns, g.own, 0, first)
			for k := range g.rows {
				x, fine := impl.RowBehind(g.columns, g.own, first, k)
				wantNumber(t, fmt.Sprint(what, " row ", k), presses/power(k*g.columns)%power(g.columns), ok && fine, x)
			}
		}
	}
}

func TestRowPeriod(t *testing.T) {
	eachWidth(func(what string, columns int, own bool, st stepper) {
		for first := range power(columns) {
			x, ok := impl.RowPeriod(columns, own, first)
			if columns > 6 || first == 0 {
				wantNoNumber(t, fmt.Sprint(what, " first row ", first), x, ok)
				continue
			}
			want, before, row := 1, first, st[first]
			for before != 0 || row != first {
				want, before, row = want+1, row, st[row]^before
			}
			wantNumber(t, fmt.Sprint(what, " first row ", first), x, ok, want)
		}
	})
	for _, c := range []struct {
		columns     int
		own         bool
		first, want int
	}{{1, true, 1, 3}, {1, false, 1, 2}, {2, true, 1, 4}, {2, true, 3, 2}, {2, false, 3, 3}} {
		x, ok := impl.RowPeriod(c.columns, c.own, c.first)
		wantNumber(t, fmt.Sprint(c), x, ok, c.want)
	}
}

func TestQuietRows(t *testing.T) {
	d := &dice{state: 53}
	eachWidth(func(what string, columns int, own bool, st stepper) {
		for _, first := range someFirsts(columns, d) {
			for _, most := range []int{0, 1, 2, 3, 7, 50, 199, 200} {
				list, ok := impl.QuietRows(columns, own, first, most)
				if first == 0 {
					wantNoList(t, fmt.Sprint(what, " first row 0, most ", most), list, ok)
					continue
				}
				want := []int{}
				for n, row := range st.rows(first, most) {
					if n > 0 && row == 0 {
						want = append(want, n)
					}
				}
				wantList(t, fmt.Sprint(what, " first row ", first, " most ", most), list, ok, want)
			}
		}
	})
	list, ok := impl.QuietRows(2, true, 1, 7)
	wantList(t, "up to 7", list, ok, []int{3, 7})
	list, ok = impl.QuietRows(2, true, 1, 2)
	wantList(t, "up to 2", list, ok, nil)
	list, ok = impl.QuietRows(1, false, 1, 5)
	wantList(t, "one column", list, ok, []int{1, 3, 5})
	list, ok = impl.QuietRows(2, true, 1, 0)
	wantList(t, "up to 0", list, ok, nil)
}

// TestNullitiesByRows counts the first rows whose row is 0.
func TestNullitiesByRows(t *testing.T) {
	eachWidth(func(what string, columns int, own bool, st stepper) {
		counts := filled(201, 0)
		for first := range power(columns) {
			for n, row := range st.rows(first, 200) {
				if row == 0 {
					counts[n]++
				}
			}
		}
		var want []int
		for rows := 1; rows <= 200; rows++ {
			x, ok := impl.NullityByRows(rows, columns, own)
			wantNumber(t, fmt.Sprint(what, " first rows of ", rows), power(x), ok, counts[rows])
			want = append(want, x)
		}
		for _, most := range []int{0, 1, 2, 10, 199, 200} {
			list, ok := impl.NullitiesByRows(columns, own, most)
			wantList(t, fmt.Sprint(what, " most ", most), list, ok, want[:most])
		}
	})
}

func TestNullityOfGridsByRows(t *testing.T) {
	for _, g := range grids() {
		x, ok := impl.NullityByRows(g.rows, g.columns, g.own)
		if g.columns > 8 {
			wantNoNumber(t, g.name(), x, ok)
			continue
		}
		graph, _ := impl.GridGraph(g.rows, g.columns, g.own)
		want, _ := impl.NullityOf(graph)
		wantNumber(t, g.name(), x, ok, want)
		wantNumber(t, g.name()+" quiet patterns", power(x), ok, len(g.quiet()))
	}
}

// eliminated returns the nullity of a grid of any size. It knows no rows, but for what is next to what.
func eliminated(rows, columns int, own bool) int {
	n := rows * columns
	pivots := make([]*big.Int, n)
	nullity := 0
	for i := range n {
		s := new(big.Int)
		for j := max(0, i-columns); j < min(n, i+columns+1); j++ {
			sameRow, sameColumn := i/columns == j/columns, i%columns == j%columns
			if i == j && own || sameRow && nextTo(i, j, n, false) || sameColumn && nextTo(i/columns, j/columns, rows, false) {
				s.SetBit(s, j, 1)
			}
		}
		for s.Sign() != 0 && pivots[s.BitLen()-1] != nil {
			s.Xor(s, pivots[s.BitLen()-1])
		}
		if s.Sign() == 0 {
			nullity++
		} else {
			pivots[s.BitLen()-1] = s
		}
	}
	return nullity
}

func TestNullityOfLongGrids(t *testing.T) {
	eachWidth(func(what string, columns int, own bool, _ stepper) {
		for _, rows := range []int{1, 2, 3, 5, 8, 10, 11, 14, 17, 23, 30, 47, 99, 199, 200} {
			x, ok := impl.NullityByRows(rows, columns, own)
			wantNumber(t, fmt.Sprint(what, " rows ", rows), x, ok, eliminated(rows, columns, own))
		}
	})
	for side, want := range []int{0, 0, 0, 4, 2, 0, 0, 0} {
		x, ok := impl.NullityByRows(side+1, side+1, true)
		wantNumber(t, fmt.Sprint("square of ", side+1), x, ok, want)
		x, ok = impl.NullityByRows(side+1, side+1, false)
		wantNumber(t, fmt.Sprint("square without own lights of ", side+1), x, ok, side+1)
	}
	list, ok := impl.NullitiesByRows(5, true, 12)
	wantList(t, "5 columns", list, ok, []int{1, 1, 3, 0, 2, 0, 4, 1, 1, 0, 4, 0})
}

// rowCalls has each function that takes columns, with one number more: a first row or a row, k, most or rows.
func rowCalls() map[string]func(columns int, own bool, row, number int) ([]int, bool) {
	return map[string]func(columns int, own bool, row, number int) ([]int, bool){
		"RowBehind":       func(c int, own bool, row, k int) ([]int, bool) { return asList(impl.RowBehind(c, own, row, k)) },
		"RowPeriod":       func(c int, own bool, row, _ int) ([]int, bool) { return asList(impl.RowPeriod(c, own, row)) },
		"QuietRows":       func(c int, own bool, row, most int) ([]int, bool) { return impl.QuietRows(c, own, row, most) },
		"RowToggles":      func(c int, own bool, row, _ int) ([]int, bool) { return asList(impl.RowToggles(c, own, row)) },
		"NullityByRows":   func(c int, own bool, _, rows int) ([]int, bool) { return asList(impl.NullityByRows(rows, c, own)) },
		"NullitiesByRows": func(c int, own bool, _, most int) ([]int, bool) { return impl.NullitiesByRows(c, own, most) },
	}
}

func wantNoRows(t *testing.T, names []string, columns, row, number int) {
	t.Helper()
	for _, name := range names {
		for _, own := range []bool{false, true} {
			list, ok := rowCalls()[name](columns, own, row, number)
			wantNoList(t, fmt.Sprint(name, " ", columns, " ", row, " ", number), list, ok)
		}
	}
}

func TestRowsInvalid(t *testing.T) {
	all := []string{"RowBehind", "RowPeriod", "QuietRows", "RowToggles", "NullityByRows", "NullitiesByRows"}
	for _, columns := range append(notBelow(9), 0, 16, 63, 64) {
		wantNoRows(t, all, columns, 1, 1)
		wantNoRows(t, all, columns, 0, 3)
	}
	for columns := 1; columns <= 8; columns++ {
		for _, row := range notBelow(power(columns)) {
			wantNoRows(t, []string{"RowBehind", "RowPeriod", "QuietRows", "RowToggles"}, columns, row, 1)
		}
		for _, number := range notBelow(201) {
			wantNoRows(t, []string{"RowBehind", "QuietRows", "NullityByRows", "NullitiesByRows"}, columns, 1, number)
		}
		wantNoRows(t, []string{"RowPeriod", "QuietRows"}, columns, 0, 1)
		wantNoRows(t, []string{"NullityByRows"}, columns, 0, 0)
	}
	for _, columns := range []int{7, 8} {
		wantNoRows(t, []string{"RowPeriod"}, columns, 1, 0)
	}
}

// TestRowsAreLinear adds first rows: the rows behind them are added, too.
func TestRowsAreLinear(t *testing.T) {
	d := &dice{state: 54}
	eachWidth(func(what string, columns int, own bool, _ stepper) {
		for range 20 {
			f, h, k := d.below(power(columns)), d.below(power(columns)), d.below(201)
			a, fine := impl.RowBehind(columns, own, f, k)
			b, good := impl.RowBehind(columns, own, h, k)
			x, ok := impl.RowBehind(columns, own, f^h, k)
			wantNumber(t, fmt.Sprint(what, " rows ", f, h, k), x, ok && fine && good, a^b)
		}
	})
}

// TestQuietRowsAreNullities: a grid has a quiet pattern other than 0 exactly if a first row other than 0 has its number among its quiet rows.
func TestQuietRowsAreNullities(t *testing.T) {
	for columns := 1; columns <= 5; columns++ {
		nullities, _ := impl.NullitiesByRows(columns, true, 60)
		var found []int
		for first := 1; first < power(columns); first++ {
			list, ok := impl.QuietRows(columns, true, first, 60)
			if !ok {
				t.Error(columns, first)
			}
			found = append(found, list...)
		}
		for k, nullity := range nullities {
			if slices.Contains(found, k+1) != (nullity > 0) {
				t.Errorf("%d columns, %d rows: %d", columns, k+1, nullity)
			}
		}
	}
}
