package tests

import (
	"fmt"
	"math"
	"slices"
	"sync"
	"testing"

	"loop.example/g01146/impl"
)

// Promise 3, first half: chasing rows solves grids exactly where elimination does.

// grid has the effects of all sets of presses, so that first rows are found without a chase.
type grid struct {
	truth
	rows, columns int
}

// grids has all of them, with and without Own.
var grids = sync.OnceValue(func() []grid {
	var all []grid
	for rows := 1; rows <= 16; rows++ {
		for columns := 1; rows*columns <= 16; columns++ {
			for _, own := range []bool{false, true} {
				all = append(all, grid{truthOf(gridModel(rows, columns, own, false)), rows, columns})
			}
		}
	}
	return all
})

func (g grid) name() string { return fmt.Sprint(g.rows, " by ", g.columns, " ", g.own) }

// lastRow moves a set of one row to the last one.
func (g grid) lastRow(set int) int { return set * power((g.rows-1)*g.columns) }

func (g grid) firsts(d *dice) []int { return someLights(modelOf(g.columns, g.own), d) }

// chase presses as the document says, one button after the other.
func (g grid) chase(lights, first int) (presses, left int) {
	row := buttonsOf(first)
	for k := range g.rows {
		if k > 0 {
			row = nil
			for c := range g.columns {
				if lights/power((k-1)*g.columns+c)%2 == 1 {
					row = append(row, k*g.columns+c)
				}
			}
		}
		for _, i := range row {
			lights = g.press(lights, i)
			presses += power(i)
		}
	}
	return presses, lights
}

// firstRows returns the first rows of all solutions, increasing.
func (g grid) firstRows(lights int) []int {
	var firsts []int
	for _, presses := range g.solutions(lights) {
		firsts = append(firsts, presses%power(g.columns))
	}
	slices.Sort(firsts)
	return firsts
}

func TestChaseLimits(t *testing.T) {
	if impl.MaxWide != 8 || impl.MaxRows != 200 {
		t.Error(impl.MaxWide, impl.MaxRows)
	}
}

func TestChase(t *testing.T) {
	d := &dice{state: 41}
	for _, g := range grids() {
		for _, lights := range g.boards(d) {
			for _, first := range g.firsts(d) {
				what := fmt.Sprint(g.name(), " lights ", lights, " first row ", first)
				want, lit := g.chase(lights, first)
				presses, ok := impl.ChasePresses(g.rows, g.columns, g.own, lights, first)
				wantNumber(t, what+" presses", presses, ok, want)
				left, ok := impl.ChaseLeft(g.rows, g.columns, g.own, lights, first)
				wantNumber(t, what+" left", g.lastRow(left), ok, lit)
				behind, ok := impl.PressAll(g.graph(), lights, presses)
				wantNumber(t, what+" behind the presses", behind, ok, lit)
			}
		}
	}
}

func TestChaseExamples(t *testing.T) {
	for _, c := range []struct {
		rows, columns         int
		own                   bool
		lights, first         int
		wantPresses, wantLeft int
	}{
		{1, 1, true, 0, 0, 0, 0}, {1, 1, true, 1, 1, 1, 0}, {1, 1, true, 0, 1, 1, 1}, {1, 1, false, 1, 1, 1, 1},
		{1, 3, true, 0, 2, 2, 7}, {1, 3, false, 0, 2, 2, 5}, {1, 3, true, 4, 0, 0, 4},
		{1, 16, true, 0, 32768, 32768, 49152}, {1, 16, false, 65535, 65535, 65535, 32766},
		{3, 1, true, 1, 0, 6, 0}, {3, 1, true, 7, 0, 2, 0}, {3, 1, false, 1, 0, 2, 1}, {2, 1, false, 2, 1, 1, 0},
		{3, 2, true, 0, 1, 29, 0}, {2, 2, true, 1, 0, 4, 3}, {4, 4, true, 0, 1, 58673, 0}, {2, 8, true, 1, 0, 256, 3},
	} {
		presses, ok := impl.ChasePresses(c.rows, c.columns, c.own, c.lights, c.first)
		wantNumber(t, fmt.Sprint(c, " presses"), presses, ok, c.wantPresses)
		left, ok := impl.ChaseLeft(c.rows, c.columns, c.own, c.lights, c.first)
		wantNumber(t, fmt.Sprint(c, " left"), left, ok, c.wantLeft)
	}
}

func TestFirstRowMap(t *testing.T) {
	for _, g := range grids() {
		var want []int
		for c := range g.columns {
			_, lit := g.chase(0, power(c))
			want = append(want, lit/g.lastRow(1))
		}
		list, ok := impl.FirstRowMap(g.rows, g.columns, g.own)
		wantList(t, g.name(), list, ok, want)
	}
	list, ok := impl.FirstRowMap(1, 3, true)
	wantList(t, "1 by 3", list, ok, []int{3, 7, 6})
	list, ok = impl.FirstRowMap(3, 2, true)
	wantList(t, "3 by 2", list, ok, []int{0, 0})
	list, ok = impl.FirstRowMap(3, 1, false)
	wantList(t, "3 by 1", list, ok, []int{0})
}

// TestFirstRows compares with all solutions: each has a first row of its own, and a chase from it finds it again.
func TestFirstRows(t *testing.T) {
	d := &dice{state: 42}
	for _, g := range grids() {
		for _, lights := range g.boards(d) {
			what := fmt.Sprint(g.name(), " lights ", lights)
			list, ok := impl.FirstRows(g.rows, g.columns, g.own, lights)
			if g.columns > 8 {
				wantNoList(t, what, list, ok)
				continue
			}
			wantList(t, what, list, ok, g.firstRows(lights))
			var solutions []int
			for _, first := range list {
				presses, ok := impl.ChasePresses(g.rows, g.columns, g.own, lights, first)
				wantNumber(t, what+" solved", g.effects[presses], ok, lights)
				solutions = append(solutions, presses)
			}
			slices.Sort(solutions)
			wantList(t, what+" solutions", solutions, true, g.solutions(lights))
		}
	}
}

func TestFirstRowsExamples(t *testing.T) {
	list, ok := impl.FirstRows(1, 2, true, 3)
	wantList(t, "1 by 2, both lights", list, ok, []int{1, 2})
	list, ok = impl.FirstRows(1, 2, true, 1)
	wantList(t, "1 by 2, one light", list, ok, nil)
	list, ok = impl.FirstRows(3, 2, true, 0)
	wantList(t, "3 by 2, no lights", list, ok, []int{0, 1, 2, 3})
	list, ok = impl.FirstRows(1, 1, false, 1)
	wantList(t, "1 by 1 without Own", list, ok, nil)
	list, ok = impl.FirstRows(1, 8, true, 255)
	wantList(t, "1 by 8", list, ok, []int{73, 146})
	list, ok = impl.FirstRows(1, 9, true, 511)
	wantNoList(t, "1 by 9", list, ok)
}

// TestSolveByChase compares with elimination, too: both solve the same lights.
func TestSolveByChase(t *testing.T) {
	d := &dice{state: 43}
	for _, g := range grids() {
		for _, lights := range g.boards(d) {
			what := fmt.Sprint(g.name(), " lights ", lights)
			presses, ok := impl.SolveByChase(g.rows, g.columns, g.own, lights)
			firsts := g.firstRows(lights)
			if g.columns > 8 || len(firsts) == 0 {
				wantNoNumber(t, what, presses, ok)
			} else {
				want, _ := g.chase(lights, firsts[0])
				wantNumber(t, what, presses, ok, want)
				wantNumber(t, what+" effect", g.effects[presses], ok, lights)
			}
			if solved, fine := impl.CanSolve(g.graph(), lights); g.columns <= 8 && (!fine || solved != ok) {
				t.Errorf("%s: by elimination %v, by a chase %v", what, solved, ok)
			}
		}
	}
}

// TestSolveAllBoards has each board of the grids of at most 9 buttons.
func TestSolveAllBoards(t *testing.T) {
	for _, g := range grids() {
		if g.n > 9 || g.columns > 8 {
			continue
		}
		solvable := map[int]bool{}
		for _, lights := range g.effects {
			solvable[lights] = true
		}
		for lights := range power(g.n) {
			presses, ok := impl.SolveByChase(g.rows, g.columns, g.own, lights)
			if ok != solvable[lights] || ok && g.effects[presses] != lights || !ok && presses != 0 {
				t.Errorf("%s lights %d: %d %v", g.name(), lights, presses, ok)
			}
		}
	}
}

func TestLastRowTable(t *testing.T) {
	for _, g := range grids() {
		list, ok := impl.LastRowTable(g.rows, g.columns, g.own)
		if g.columns > 5 {
			wantNoList(t, g.name(), list, ok)
			continue
		}
		var want []int
		for set := range power(g.columns) {
			first := -1
			if firsts := g.firstRows(g.lastRow(set)); len(firsts) > 0 {
				first = firsts[0]
			}
			want = append(want, first)
		}
		wantList(t, g.name(), list, ok, want)
	}
}

func TestLastRowTableExamples(t *testing.T) {
	list, ok := impl.LastRowTable(1, 2, true)
	wantList(t, "1 by 2", list, ok, []int{0, -1, -1, 1})
	list, ok = impl.LastRowTable(1, 1, true)
	wantList(t, "1 by 1", list, ok, []int{0, 1})
	list, ok = impl.LastRowTable(1, 1, false)
	wantList(t, "1 by 1 without Own", list, ok, []int{0, -1})
	list, ok = impl.LastRowTable(3, 2, true)
	wantList(t, "3 by 2", list, ok, []int{0, -1, -1, -1})
	list, ok = impl.LastRowTable(3, 5, true)
	wantNumber(t, "3 by 5", len(list), ok, 32)
	list, ok = impl.LastRowTable(2, 6, true)
	wantNoList(t, "2 by 6", list, ok)
}

// asList makes lists of numbers: a failed call has none.
func asList(x int, ok bool) ([]int, bool) {
	if x == 0 && !ok {
		return nil, false
	}
	return []int{x}, ok
}

// gridCalls has each function that takes a grid; those that take fewer numbers leave the last ones out.
func gridCalls() map[string]func(rows, columns int, own bool, lights, first int) ([]int, bool) {
	return map[string]func(rows, columns int, own bool, lights, first int) ([]int, bool){
		"ChasePresses": func(r, c int, own bool, lights, first int) ([]int, bool) {
			return asList(impl.ChasePresses(r, c, own, lights, first))
		},
		"ChaseLeft": func(r, c int, own bool, lights, first int) ([]int, bool) {
			return asList(impl.ChaseLeft(r, c, own, lights, first))
		},
		"FirstRows": func(r, c int, own bool, lights, _ int) ([]int, bool) { return impl.FirstRows(r, c, own, lights) },
		"SolveByChase": func(r, c int, own bool, lights, _ int) ([]int, bool) {
			return asList(impl.SolveByChase(r, c, own, lights))
		},
		"FirstRowMap":  func(r, c int, own bool, _, _ int) ([]int, bool) { return impl.FirstRowMap(r, c, own) },
		"LastRowTable": func(r, c int, own bool, _, _ int) ([]int, bool) { return impl.LastRowTable(r, c, own) },
	}
}

func wantNoGrid(t *testing.T, rows, columns int) {
	t.Helper()
	for name, call := range gridCalls() {
		for _, own := range []bool{false, true} {
			list, ok := call(rows, columns, own, 0, 0)
			wantNoList(t, fmt.Sprint(name, " ", rows, " by ", columns), list, ok)
		}
	}
}

// TestChaseNoGrids has numbers, too, whose product, as it wraps around, is in 0..16.
func TestChaseNoGrids(t *testing.T) {
	for rows := -2; rows <= 18; rows++ {
		for columns := -2; columns <= 18; columns++ {
			if rows < 1 || columns < 1 || rows*columns > 16 {
				wantNoGrid(t, rows, columns)
			}
		}
	}
	great := []int{math.MaxInt, math.MinInt, math.MinInt + 1, power(32), power(62), power(61) + 1, power(60) + 1, -power(62), 0x2AAAAAAAAAAAAAAB, 0x5555555555555556, 0x4CCCCCCCCCCCCCCD}
	for _, x := range great {
		for _, y := range append([]int{-16, -4, -3, -1, 0, 1, 2, 3, 4, 5, 8, 16}, great...) {
			wantNoGrid(t, x, y)
			wantNoGrid(t, y, x)
		}
	}
}

func TestChaseNoSets(t *testing.T) {
	for _, g := range grids() {
		for _, lights := range notBelow(power(g.n)) {
			for _, name := range []string{"ChasePresses", "ChaseLeft", "FirstRows", "SolveByChase"} {
				list, ok := gridCalls()[name](g.rows, g.columns, g.own, lights, 0)
				wantNoList(t, fmt.Sprint(name, " ", g.name(), " lights ", lights), list, ok)
			}
		}
		for _, first := range notBelow(power(g.columns)) {
			for _, name := range []string{"ChasePresses", "ChaseLeft"} {
				list, ok := gridCalls()[name](g.rows, g.columns, g.own, 0, first)
				wantNoList(t, fmt.Sprint(name, " ", g.name(), " first row ", first), list, ok)
			}
		}
	}
}
