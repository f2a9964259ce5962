package tests

import (
	"fmt"
	"math"
	"testing"

	"loop.example/g01146/impl"
)

// Promise 6: nullities of paths and circles follow remainders, and paths are solved by chasing.

// steps tells for each n, 1, 2, .., what n steps make of two buttons next to each other: the first column of the table for 0 and 1, the second one for 1 and 0.
// A step goes from the buttons i - 1 and i to i and i + 1, so that the light i is off.
func steps(most int, own bool, tell func(n int, a, b [2]int)) {
	next := func(s [2]int) [2]int {
		after := s[0]
		if own {
			after += s[1]
		}
		return [2]int{s[1], after % 2}
	}
	a, b := [2]int{0, 1}, [2]int{1, 0}
	for n := 1; n <= most; n++ {
		a, b = next(a), next(b)
		tell(n, a, b)
	}
}

// TestPathNullity has all paths of up to a million buttons: behind a first button that is pressed, the one behind the last one must not need a press.
func TestPathNullity(t *testing.T) {
	for _, own := range []bool{false, true} {
		steps(1000000, own, func(n int, a, _ [2]int) {
			if x, ok := impl.PathNullity(n, own); !ok || x != 1-a[1] {
				t.Errorf("path of %d %v: %d %v, want %d true", n, own, x, ok, 1-a[1])
			}
		})
	}
}

// TestCircleNullity has all circles of up to a million buttons: two buttons next to each other have to be the same once round.
func TestCircleNullity(t *testing.T) {
	for _, own := range []bool{false, true} {
		steps(1000000, own, func(n int, a, b [2]int) {
			if n < 3 {
				return
			}
			stay, want := 0, map[int]int{1: 0, 2: 1, 4: 2}
			for first := range 2 {
				for second := range 2 {
					if (a[0]*second+b[0]*first)%2 == first && (a[1]*second+b[1]*first)%2 == second {
						stay++
					}
				}
			}
			if x, ok := impl.CircleNullity(n, own); !ok || x != want[stay] {
				t.Errorf("circle of %d %v: %d %v, want %d true", n, own, x, ok, want[stay])
			}
		})
	}
}

// TestLineNullitiesAreTrue compares with all sets of presses, elimination, rows and states.
func TestLineNullitiesAreTrue(t *testing.T) {
	for _, own := range []bool{false, true} {
		for n := 1; n <= 16; n++ {
			path, circle := truthOf(gridModel(1, n, own, false)), truthOf(gridModel(1, n, own, true))
			what := fmt.Sprint(n, " ", own)
			x, ok := impl.PathNullity(n, own)
			wantNumber(t, "quiet patterns of the path of "+what, power(x), ok, len(path.quiet()))
			y, ok := impl.NullityOf(path.graph())
			wantNumber(t, "path of "+what, y, ok, x)
			y, ok = impl.NullityByStates(path.graph())
			wantNumber(t, "path by states of "+what, y, ok, x)
			if n >= 3 {
				x, ok = impl.CircleNullity(n, own)
				wantNumber(t, "quiet patterns of the circle of "+what, power(x), ok, len(circle.quiet()))
				y, ok = impl.NullityOf(circle.graph())
				wantNumber(t, "circle of "+what, y, ok, x)
			}
		}
		for n := 1; n <= 200; n++ {
			x, ok := impl.PathNullity(n, own)
			y, fine := impl.NullityByRows(n, 1, own)
			wantNumber(t, fmt.Sprint("path by rows of ", n, " ", own), y, ok && fine, x)
		}
	}
}

func TestLineNullityExamples(t *testing.T) {
	for _, c := range []struct {
		n            int
		own          bool
		path, circle int
	}{
		{3, true, 0, 2}, {4, true, 0, 0}, {5, true, 1, 0}, {6, true, 0, 2}, {3, false, 1, 1}, {4, false, 0, 2}, {5, false, 1, 1}, {6, false, 0, 2},
		{999998, true, 1, 0}, {999999, true, 0, 2}, {1000000, true, 0, 0}, {999999, false, 1, 1}, {1000000, false, 0, 2},
	} {
		x, ok := impl.PathNullity(c.n, c.own)
		wantNumber(t, fmt.Sprint("path ", c), x, ok, c.path)
		x, ok = impl.CircleNullity(c.n, c.own)
		wantNumber(t, fmt.Sprint("circle ", c), x, ok, c.circle)
	}
	for n, want := range map[int]int{1: 0, 2: 1} {
		x, ok := impl.PathNullity(n, true)
		wantNumber(t, fmt.Sprint("path of ", n), x, ok, want)
		x, ok = impl.PathNullity(n, false)
		wantNumber(t, fmt.Sprint("path without Own of ", n), x, ok, 1-want)
	}
}

func TestLineNullityLimits(t *testing.T) {
	for _, own := range []bool{false, true} {
		for _, n := range []int{0, -1, -2, -3, -5, 1000001, 1000002, 1000003, 2000000, power(32), power(62), -power(32), -power(62), math.MaxInt, math.MinInt, math.MinInt + 1} {
			x, ok := impl.PathNullity(n, own)
			wantNoNumber(t, fmt.Sprint("path of ", n), x, ok)
			x, ok = impl.CircleNullity(n, own)
			wantNoNumber(t, fmt.Sprint("circle of ", n), x, ok)
		}
		for n := 1; n <= 2; n++ {
			x, ok := impl.CircleNullity(n, own)
			wantNoNumber(t, fmt.Sprint("circle of ", n), x, ok)
		}
	}
}

// wantPathSolved requires the solution without the button 0, or else the one with it: there is at most one of each.
func wantPathSolved(t *testing.T, tr truth, lights int, solutions []int) {
	t.Helper()
	what := fmt.Sprint(tr.text(), " lights ", lights)
	x, ok := impl.SolvePath(tr.n, tr.own, lights)
	if len(solutions) == 0 {
		wantNoNumber(t, what, x, ok)
		return
	}
	want := solutions[0]
	for _, presses := range solutions {
		if presses%2 == 0 {
			want = presses
		}
	}
	wantNumber(t, what, x, ok, want)
	left, ok := impl.PressAll(tr.graph(), lights, x)
	wantNumber(t, what+" behind the presses", left, ok, 0)
}

// TestSolvePath has each board of each path.
func TestSolvePath(t *testing.T) {
	for _, own := range []bool{false, true} {
		for n := 1; n <= 16; n++ {
			tr := truthOf(gridModel(1, n, own, false))
			solutions := make([][]int, power(n))
			for presses, lights := range tr.effects {
				solutions[lights] = append(solutions[lights], presses)
			}
			for lights := range power(n) {
				wantPathSolved(t, tr, lights, solutions[lights])
			}
		}
	}
}

func TestSolvePathExamples(t *testing.T) {
	for _, c := range []struct {
		n            int
		own          bool
		lights, want int
	}{
		{1, true, 0, 0}, {1, true, 1, 1}, {1, false, 0, 0}, {2, true, 3, 2}, {2, true, 0, 0}, {2, false, 1, 2}, {2, false, 3, 3}, {3, true, 7, 2}, {3, true, 1, 6}, {3, false, 5, 2}, {3, false, 2, 4}, {3, false, 7, 6},
		{16, true, 0, 0}, {16, false, 32768, 21845},
	} {
		x, ok := impl.SolvePath(c.n, c.own, c.lights)
		wantNumber(t, fmt.Sprint(c), x, ok, c.want)
	}
	for _, c := range []struct {
		n      int
		own    bool
		lights int
	}{{1, false, 1}, {2, true, 1}, {2, true, 2}, {3, false, 1}, {3, false, 4}, {5, true, 1}} {
		x, ok := impl.SolvePath(c.n, c.own, c.lights)
		wantNoNumber(t, fmt.Sprint(c), x, ok)
	}
}

func TestSolvePathInvalid(t *testing.T) {
	for _, own := range []bool{false, true} {
		for _, n := range append(notBelow(17), 0, 20, 63, 64, 65) {
			for _, lights := range []int{0, 1, -1} {
				x, ok := impl.SolvePath(n, own, lights)
				wantNoNumber(t, fmt.Sprint("path of ", n, " lights ", lights), x, ok)
			}
		}
		for n := 1; n <= 16; n++ {
			for _, lights := range notBelow(power(n)) {
				x, ok := impl.SolvePath(n, own, lights)
				wantNoNumber(t, fmt.Sprint("path of ", n, " lights ", lights), x, ok)
			}
		}
	}
}
