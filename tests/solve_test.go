package tests

import (
	"fmt"
	"testing"

	"loop.example/g01146/impl"
)

// Promise 2, second half: each board is solved or refused by a quiet pattern, and all on is always solved.

func TestSolvedOrRefused(t *testing.T) {
	d := &dice{state: 31}
	for _, tr := range truths() {
		g, quiet := tr.graph(), tops(tr.quiet())
		for _, lights := range tr.boards(d) {
			what, solutions := fmt.Sprint(tr.text(), lights), tr.solutions(lights)
			answer, ok := impl.CanSolve(g, lights)
			wantAnswer(t, what, answer, ok, len(solutions) > 0)
			presses, solved := impl.SolveBoard(g, lights)
			witness, refused := impl.WitnessOf(g, lights)
			want, odd := tr.firstWitness(lights)
			if solved == refused || solved != answer || refused != odd {
				t.Errorf("%s: solved %v, refused %v", what, solved, refused)
			}
			if refused {
				wantNumber(t, what+" witness", witness, refused, want)
				wantNoNumber(t, what, presses, solved)
				continue
			}
			wantNoNumber(t, what, witness, refused)
			if tr.effects[presses] != lights || !hasNone(presses, quiet) {
				t.Errorf("%s: %d does not solve it, or has a greatest element of a quiet set", what, presses)
			}
			left, ok := impl.PressAll(g, lights, presses)
			wantNumber(t, what+" behind its solution", left, ok, 0)
		}
	}
}

func TestCountSolutions(t *testing.T) {
	d := &dice{state: 32}
	for _, tr := range truths() {
		for _, lights := range tr.boards(d) {
			x, ok := impl.CountSolutions(tr.graph(), lights)
			wantNumber(t, fmt.Sprint(tr.text(), lights), x, ok, len(tr.solutions(lights)))
		}
	}
}

func TestLeastSolution(t *testing.T) {
	d := &dice{state: 33}
	for _, tr := range truths() {
		for _, lights := range tr.boards(d) {
			what, solutions := fmt.Sprint(tr.text(), lights), tr.solutions(lights)
			x, ok := impl.LeastSolution(tr.graph(), lights)
			if len(solutions) == 0 {
				wantNoNumber(t, what, x, ok)
			} else {
				wantNumber(t, what, x, ok, fewest(solutions))
			}
		}
	}
}

func TestSolutionsBySize(t *testing.T) {
	d := &dice{state: 34}
	for _, tr := range truths() {
		for _, lights := range tr.boards(d) {
			want := filled(tr.n+1, 0)
			for _, presses := range tr.solutions(lights) {
				want[len(buttonsOf(presses))]++
			}
			what := fmt.Sprint(tr.text(), lights)
			list, ok := impl.SolutionsBySize(tr.graph(), lights)
			if len(tr.quiet()) <= power(8) {
				wantList(t, what, list, ok, want)
			} else {
				wantNoList(t, what, list, ok)
			}
		}
	}
}

// TestAllOn has all graphs of up to 5 buttons, too: with Own all lights can be solved on each.
func TestAllOn(t *testing.T) {
	all := truths()
	for _, m := range allModels(5) {
		all = append(all, truthOf(m))
	}
	for _, tr := range all {
		lights := power(tr.n) - 1
		x, ok := impl.AllOn(tr.graph())
		if tr.own && !ok {
			t.Errorf("%s is not solved", tr.text())
		}
		if _, odd := tr.firstWitness(lights); odd {
			wantNoNumber(t, tr.text(), x, ok)
			continue
		}
		if !ok || tr.effects[x] != lights || !hasNone(x, tops(tr.quiet())) {
			t.Errorf("%s: %d %v", tr.text(), x, ok)
		}
	}
}

func TestAllOnExamples(t *testing.T) {
	for text, want := range map[string]int{
		"1+:-": 1, "2+:-": 3, "2+:0-1": 1, "2:0-1": 3, "3+:0-1,1-2": 2, "3:0-1,1-2": 3, "16+:-": 65535,
		"9+:0-1,0-3,1-2,1-4,2-5,3-4,3-6,4-5,4-7,5-8,6-7,7-8": 341,
	} {
		g, _ := impl.ParseGraph(text)
		x, ok := impl.AllOn(g)
		wantNumber(t, text, x, ok, want)
	}
	for _, text := range []string{"1:-", "2:-", "3:0-1,0-2,1-2", "16:-", "3:0-1"} {
		g, _ := impl.ParseGraph(text)
		x, ok := impl.AllOn(g)
		wantNoNumber(t, text, x, ok)
	}
}

func TestFarthestBoard(t *testing.T) {
	for _, tr := range truths() {
		farthest, most, ok := impl.FarthestBoard(tr.graph())
		if tr.n > 10 {
			wantNoNumber(t, tr.text(), farthest, ok)
			wantNoNumber(t, tr.text(), most, ok)
			continue
		}
		needs := map[int]int{}
		for presses, lights := range tr.effects {
			size, known := needs[lights]
			if !known || len(buttonsOf(presses)) < size {
				needs[lights] = len(buttonsOf(presses))
			}
		}
		wantLights, wantMost := 0, 0
		for _, lights := range tr.image() {
			if needs[lights] > wantMost {
				wantLights, wantMost = lights, needs[lights]
			}
		}
		wantNumber(t, tr.text()+" lights", farthest, ok, wantLights)
		wantNumber(t, tr.text()+" presses", most, ok, wantMost)
	}
}

func TestFarthestBoardLimit(t *testing.T) {
	for _, own := range []bool{false, true} {
		lights, most, ok := impl.FarthestBoard(modelOf(10, own).graph())
		want := 0
		if own {
			want = 10
		}
		wantNumber(t, "10 buttons", lights, ok, power(want)-1)
		wantNumber(t, "10 buttons", most, ok, want)
		lights, most, ok = impl.FarthestBoard(modelOf(11, own).graph())
		wantNoNumber(t, "11 buttons", lights, ok)
		wantNoNumber(t, "11 buttons", most, ok)
	}
	lights, most, ok := impl.FarthestBoard(gridModel(3, 3, true, false).graph())
	wantNumber(t, "3 by 3", lights, ok, 341)
	wantNumber(t, "3 by 3", most, ok, 9)
}

// TestAllQuiet has the greatest nullities: each set of presses solves the lights 0, or each even one does.
func TestAllQuiet(t *testing.T) {
	g := modelOf(16, false).graph()
	x, ok := impl.CountSolutions(g, 0)
	wantNumber(t, "solutions of 0", x, ok, 65536)
	x, ok = impl.CountSolutions(g, 32768)
	wantNumber(t, "solutions of 32768", x, ok, 0)
	x, ok = impl.LeastSolution(g, 0)
	wantNumber(t, "least solution of 0", x, ok, 0)
	x, ok = impl.WitnessOf(g, 32768)
	wantNumber(t, "witness of 32768", x, ok, 32768)
	g = fullModel(16, true).graph()
	x, ok = impl.CountSolutions(g, 65535)
	wantNumber(t, "solutions of all", x, ok, 32768)
	x, ok = impl.LeastSolution(g, 65535)
	wantNumber(t, "least solution of all", x, ok, 1)
}

// boardFunctions are those that take a graph and a set.
func boardFunctions() map[string]func(impl.Graph, int) (int, bool) {
	return map[string]func(impl.Graph, int) (int, bool){
		"SolveBoard": impl.SolveBoard, "WitnessOf": impl.WitnessOf, "CountSolutions": impl.CountSolutions, "LeastSolution": impl.LeastSolution,
	}
}

func wantRefused(t *testing.T, what string, g impl.Graph, set int) {
	t.Helper()
	for name, f := range boardFunctions() {
		x, ok := f(g, set)
		wantNoNumber(t, name+" "+what, x, ok)
	}
	answer, ok := impl.CanSolve(g, set)
	wantNoAnswer(t, "CanSolve "+what, answer, ok)
	answer, ok = impl.IsQuiet(g, set)
	wantNoAnswer(t, "IsQuiet "+what, answer, ok)
	list, ok := impl.SolutionsBySize(g, set)
	wantNoList(t, "SolutionsBySize "+what, list, ok)
}

func TestSolveInvalidSets(t *testing.T) {
	for _, m := range []model{modelOf(1, true), modelOf(1, false), modelOf(3, true, [2]int{0, 1}), modelOf(8, false), modelOf(16, false, [2]int{14, 15}), modelOf(16, true), fullModel(16, true)} {
		for _, s := range notBelow(power(m.n)) {
			wantRefused(t, fmt.Sprint(m.text(), s), m.graph(), s)
		}
	}
}

func TestSolveInvalidGraphs(t *testing.T) {
	for _, g := range badGraphs() {
		for _, s := range []int{0, 1, 3, -1, 65535, 65536} {
			wantRefused(t, fmt.Sprint(g, s), g, s)
		}
	}
}
