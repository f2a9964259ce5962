package tests

import (
	"fmt"
	"testing"

	"loop.example/g01146/impl"
)

// Promise 1, second half: presses add up in any order.

func TestPressExamples(t *testing.T) {
	with := modelOf(3, true, [2]int{0, 1}, [2]int{1, 2}).graph()
	without := modelOf(3, false, [2]int{0, 1}, [2]int{1, 2}).graph()
	x, ok := impl.TogglesOf(with, 1)
	wantNumber(t, "toggles with Own", x, ok, 7)
	x, ok = impl.TogglesOf(without, 1)
	wantNumber(t, "toggles without Own", x, ok, 5)
	x, ok = impl.EffectOf(with, 5)
	wantNumber(t, "effect of 0 and 2", x, ok, 5)
	x, ok = impl.EffectOf(without, 5)
	wantNumber(t, "effect of 0 and 2 without Own", x, ok, 0)
	x, ok = impl.PressButton(with, 2, 0)
	wantNumber(t, "press 0", x, ok, 1)
	x, ok = impl.PressWord(with, 7, []int{1, 1, 1})
	wantNumber(t, "press 1 three times", x, ok, 0)
}

func TestPressOneButton(t *testing.T) {
	for lights := range 2 {
		x, ok := impl.PressButton(modelOf(1, true).graph(), lights, 0)
		wantNumber(t, "with Own", x, ok, 1-lights)
		x, ok = impl.PressButton(modelOf(1, false).graph(), lights, 0)
		wantNumber(t, "without Own", x, ok, lights)
	}
}

// someLights gives all sets of lights of a small model, and a few of a big one.
func someLights(m model, d *dice) []int {
	var sets []int
	for s := range power(min(m.n, 4)) {
		sets = append(sets, s)
	}
	if m.n > 4 {
		sets = append(sets, power(m.n)-1, power(m.n-1), d.below(power(m.n)), d.below(power(m.n)))
	}
	return sets
}

func TestTogglesOf(t *testing.T) {
	for _, m := range someModels() {
		for i := range m.n {
			x, ok := impl.TogglesOf(m.graph(), i)
			wantNumber(t, fmt.Sprint(m.text(), " ", i), x, ok, m.press(0, i))
		}
	}
}

func TestPressButton(t *testing.T) {
	d := &dice{state: 4}
	for _, m := range someModels() {
		for _, lights := range someLights(m, d) {
			for i := range m.n {
				x, ok := impl.PressButton(m.graph(), lights, i)
				wantNumber(t, fmt.Sprint(m.text(), lights, i), x, ok, m.press(lights, i))
			}
		}
	}
}

func TestPressAll(t *testing.T) {
	d := &dice{state: 5}
	for _, m := range someModels() {
		for _, lights := range someLights(m, d) {
			for _, presses := range someLights(m, d) {
				x, ok := impl.PressAll(m.graph(), lights, presses)
				wantNumber(t, fmt.Sprint(m.text(), lights, presses), x, ok, m.press(lights, buttonsOf(presses)...))
			}
		}
	}
}

func TestEffectOf(t *testing.T) {
	d := &dice{state: 6}
	for _, m := range someModels() {
		sets := someLights(m, d)
		for _, a := range sets {
			x, ok := impl.EffectOf(m.graph(), a)
			wantNumber(t, fmt.Sprint(m.text(), a), x, ok, m.press(0, buttonsOf(a)...))
			for _, b := range sets {
				y, _ := impl.EffectOf(m.graph(), b)
				z, ok := impl.EffectOf(m.graph(), a^b)
				wantNumber(t, fmt.Sprint(m.text(), a, " and ", b), z, ok, x^y)
			}
		}
	}
}

func TestPressWord(t *testing.T) {
	d := &dice{state: 7}
	for _, m := range someModels() {
		for _, length := range []int{0, 1, 2, 3, 7, 50, 199, 200} {
			word, lights := d.word(m.n, length), d.below(power(m.n))
			x, ok := impl.PressWord(m.graph(), lights, word)
			wantNumber(t, fmt.Sprint(m.text(), lights, word), x, ok, m.press(lights, word...))
			y, ok := impl.PressWord(m.graph(), lights, d.shuffled(word))
			wantNumber(t, "in another order", y, ok, x)
			y, ok = impl.PressWord(m.graph(), x, word)
			wantNumber(t, "once more", y, ok, lights)
		}
	}
}

func TestPressesAgree(t *testing.T) {
	d := &dice{state: 8}
	for _, m := range someModels() {
		g := m.graph()
		for _, presses := range someLights(m, d) {
			lights := d.below(power(m.n))
			all, _ := impl.PressAll(g, lights, presses)
			word := d.shuffled(buttonsOf(presses))
			inWord, ok := impl.PressWord(g, lights, word)
			wantNumber(t, "PressWord and PressAll", inWord, ok, all)
			oneByOne := lights
			for _, i := range word {
				oneByOne, ok = impl.PressButton(g, oneByOne, i)
			}
			wantNumber(t, "PressButton and PressAll", oneByOne, ok || len(word) == 0, all)
			effect, ok := impl.EffectOf(g, presses)
			wantNumber(t, "EffectOf and PressAll", effect^lights, ok, all)
			toggled := lights
			for _, i := range word {
				x, _ := impl.TogglesOf(g, i)
				toggled ^= x
			}
			wantNumber(t, "TogglesOf and PressAll", toggled, true, all)
		}
	}
}

func TestPressWordLimit(t *testing.T) {
	g := modelOf(1, true).graph()
	x, ok := impl.PressWord(g, 1, filled(200, 0))
	wantNumber(t, "200 presses", x, ok, 1)
	x, ok = impl.PressWord(g, 1, filled(199, 0))
	wantNumber(t, "199 presses", x, ok, 0)
	for _, long := range []int{201, 202, 400, 5000} {
		x, ok = impl.PressWord(g, 1, filled(long, 0))
		wantNoNumber(t, fmt.Sprint(long, " presses"), x, ok)
	}
	x, ok = impl.PressWord(g, 1, nil)
	wantNumber(t, "no presses", x, ok, 1)
}

func TestPressInvalidNumbers(t *testing.T) {
	for _, m := range []model{modelOf(1, true), modelOf(3, true, [2]int{0, 1}), modelOf(16, false, [2]int{14, 15}), modelOf(16, true)} {
		g := m.graph()
		for _, i := range notBelow(m.n) {
			what := fmt.Sprint(m.text(), " button ", i)
			x, ok := impl.TogglesOf(g, i)
			wantNoNumber(t, what, x, ok)
			x, ok = impl.PressButton(g, 1, i)
			wantNoNumber(t, what, x, ok)
			for _, word := range [][]int{{i}, {0, i}, {i, 0}, {0, i, 0}, append(filled(199, 0), i)} {
				x, ok = impl.PressWord(g, 1, word)
				wantNoNumber(t, what, x, ok)
			}
		}
		for _, s := range notBelow(power(m.n)) {
			what := fmt.Sprint(m.text(), " set ", s)
			x, ok := impl.PressButton(g, s, 0)
			wantNoNumber(t, what, x, ok)
			x, ok = impl.PressAll(g, s, 1)
			wantNoNumber(t, what, x, ok)
			x, ok = impl.PressAll(g, s, 0)
			wantNoNumber(t, what, x, ok)
			x, ok = impl.PressAll(g, 1, s)
			wantNoNumber(t, what, x, ok)
			x, ok = impl.PressWord(g, s, []int{0})
			wantNoNumber(t, what, x, ok)
			x, ok = impl.PressWord(g, s, nil)
			wantNoNumber(t, what, x, ok)
			x, ok = impl.EffectOf(g, s)
			wantNoNumber(t, what, x, ok)
		}
	}
}

func TestPressInvalidGraphs(t *testing.T) {
	for _, g := range badGraphs() {
		what := fmt.Sprint(g)
		x, ok := impl.TogglesOf(g, 0)
		wantNoNumber(t, what, x, ok)
		x, ok = impl.PressButton(g, 1, 0)
		wantNoNumber(t, what, x, ok)
		for presses := range 2 {
			x, ok = impl.PressAll(g, 1, presses)
			wantNoNumber(t, what, x, ok)
			x, ok = impl.EffectOf(g, presses)
			wantNoNumber(t, what, x, ok)
		}
		x, ok = impl.PressWord(g, 1, nil)
		wantNoNumber(t, what, x, ok)
		x, ok = impl.PressWord(g, 1, []int{0})
		wantNoNumber(t, what, x, ok)
	}
}
