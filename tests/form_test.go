package tests

import (
	"fmt"
	"slices"
	"testing"

	"loop.example/g01146/impl"
)

// Promise 9, second half: reflections keep the form.

func TestReflectExamples(t *testing.T) {
	path := gridModel(1, 3, true, false).graph()
	for _, c := range []struct{ set, i, want int }{{1, 1, 3}, {3, 1, 1}, {1, 0, 1}, {1, 2, 1}, {5, 1, 5}, {7, 1, 7}, {3, 2, 7}, {2, 0, 3}, {0, 1, 0}} {
		x, ok := impl.ReflectSet(path, c.set, c.i)
		wantNumber(t, fmt.Sprint(c), x, ok, c.want)
	}
	for set, want := range []int{0, 1, 1, 1, 1, 0, 1, 1} {
		x, ok := impl.FormOf(path, set)
		wantNumber(t, fmt.Sprint("form of ", set), x, ok, want)
	}
	even, odd, ok := impl.FormSpread(path)
	wantList(t, "spread", []int{even, odd}, ok, []int{2, 6})
}

// TestReflectSet has all sets and all buttons.
func TestReflectSet(t *testing.T) {
	for _, game := range litGames() {
		g := game.graph()
		for set, nexts := range game.reflect {
			form, ok := impl.FormOf(g, set)
			wantNumber(t, fmt.Sprint("form ", game.text(), set), form, ok, game.form(set))
			for i, want := range nexts {
				what := fmt.Sprint(game.text(), set, i)
				x, ok := impl.ReflectSet(g, set, i)
				wantNumber(t, what, x, ok, want)
				kept, ok := impl.FormOf(g, x)
				wantNumber(t, "form kept "+what, kept, ok, form)
				x, ok = impl.ReflectSet(g, x, i)
				wantNumber(t, "undone "+what, x, ok, set)
			}
		}
	}
}

// TestReflectionsAreLitPresses: reflections do to the lights that sets toggle without Own what lit presses do.
func TestReflectionsAreLitPresses(t *testing.T) {
	for _, game := range litGames() {
		if game.n == 5 {
			continue
		}
		g := game.graph()
		without, _ := impl.WithOwn(g, false)
		for set := range game.reflect {
			lights, _ := impl.EffectOf(without, set)
			for i := range game.n {
				reflected, _ := impl.ReflectSet(g, set, i)
				want, ok := impl.LitPress(g, lights, i)
				if !ok {
					want = lights
				}
				x, ok := impl.EffectOf(without, reflected)
				wantNumber(t, fmt.Sprint(game.text(), set, i), x, ok, want)
			}
		}
	}
}

func TestReflectWord(t *testing.T) {
	d := &dice{state: 95}
	for _, game := range litGames() {
		g := game.graph()
		for _, length := range []int{0, 1, 2, 3, 10, 199, 200} {
			set, word := d.below(power(game.n)), d.word(game.n, length)
			what := fmt.Sprint(game.text(), set, word)
			x, ok := impl.ReflectWord(g, set, word)
			wantNumber(t, what, x, ok, game.reflect.follow(set, word))
			slices.Reverse(word)
			x, ok = impl.ReflectWord(g, x, word)
			wantNumber(t, "back "+what, x, ok, set)
			x, ok = impl.ReflectWord(g, set, d.word(game.n, 201+length))
			wantNoNumber(t, "too long "+what, x, ok)
		}
	}
}

func TestReflectWordLimits(t *testing.T) {
	g := modelOf(2, true, [2]int{0, 1}).graph()
	x, ok := impl.ReflectWord(g, 1, filled(200, 1))
	wantNumber(t, "200 buttons", x, ok, 1)
	x, ok = impl.ReflectWord(g, 1, filled(199, 1))
	wantNumber(t, "199 buttons", x, ok, 3)
	for _, long := range []int{201, 202, 400, 5000} {
		x, ok = impl.ReflectWord(g, 1, filled(long, 1))
		wantNoNumber(t, fmt.Sprint(long, " buttons"), x, ok)
	}
	for _, word := range [][]int{nil, {}, {0}, {0, 0}, {1, 1}, {1, 0, 1, 0, 1, 0}} {
		x, ok = impl.ReflectWord(g, 1, word)
		wantNumber(t, fmt.Sprint(word), x, ok, 1)
	}
	x, ok = impl.ReflectWord(g, 1, []int{1, 0})
	wantNumber(t, "in order", x, ok, 2)
	x, ok = impl.ReflectWord(g, 1, []int{0, 1})
	wantNumber(t, "in order", x, ok, 3)
}

// TestReflectOrbits has the sets that reflections lead to from all sets; they all have the same form.
func TestReflectOrbits(t *testing.T) {
	for _, game := range litGames() {
		g := game.graph()
		for set := range game.reflect {
			what := fmt.Sprint(game.text(), set)
			list, ok := impl.ReflectOrbit(g, set)
			wantList(t, what, list, ok, orbit(game.reflectedLeast, set))
			form := game.form(set)
			if slices.ContainsFunc(list, func(other int) bool { return game.form(other) != form }) {
				t.Errorf("%s: %v have different forms", what, list)
			}
		}
	}
}

func TestReflectOrbitExamples(t *testing.T) {
	for _, c := range []struct {
		text string
		set  int
		want []int
	}{
		{"1:-", 0, []int{0}}, {"1+:-", 1, []int{1}}, {"9:-", 511, []int{511}}, {"2:0-1", 0, []int{0}}, {"2:0-1", 3, []int{1, 2, 3}}, {"3+:0-1,1-2", 1, []int{1, 2, 3, 4, 6, 7}}, {"3:0-1,1-2", 5, []int{5}}, {"3:0-1", 5, []int{5, 6, 7}}, {"4:0-1,2-3", 5, []int{5, 6, 7, 9, 10, 11, 13, 14, 15}},
	} {
		g, _ := impl.ParseGraph(c.text)
		list, ok := impl.ReflectOrbit(g, c.set)
		wantList(t, fmt.Sprint(c), list, ok, c.want)
	}
}

func TestFormSpread(t *testing.T) {
	for _, game := range litGames() {
		var counts [2]int
		for set := range game.reflect {
			counts[game.form(set)]++
		}
		even, odd, ok := impl.FormSpread(game.graph())
		wantList(t, game.text(), []int{even, odd}, ok, counts[:])
	}
	for text, want := range map[string][]int{"1:-": {1, 1}, "1+:-": {1, 1}, "2:-": {2, 2}, "2:0-1": {1, 3}, "2+:0-1": {1, 3}, "3:0-1,1-2": {2, 6}, "3:0-1,0-2,1-2": {2, 6}, "4:0-1,2-3": {10, 6}, "9:-": {256, 256}} {
		g, _ := impl.ParseGraph(text)
		even, odd, ok := impl.FormSpread(g)
		wantList(t, text, []int{even, odd}, ok, want)
	}
}

// formsOf returns the forms that sets with each effect have, each once: the effects of all sets are looked through.
func (m model) formsOf() [][]int {
	forms := make([][]int, power(m.n))
	for set, effect := range truthOf(m.withOwn(false)).effects {
		if form := m.form(set); !slices.Contains(forms[effect], form) {
			forms[effect] = append(forms[effect], form)
		}
	}
	return forms
}

// TestFormOfLights has all sets of lights; of these there have to be some with each kind of answer.
func TestFormOfLights(t *testing.T) {
	kinds := map[string]int{}
	for _, game := range litGames() {
		for lights, forms := range game.formsOf() {
			what := fmt.Sprint(game.text(), lights)
			kinds[fmt.Sprint(slices.Sorted(slices.Values(forms)))]++
			x, ok := impl.FormOfLights(game.graph(), lights)
			if len(forms) == 1 {
				wantNumber(t, what, x, ok, forms[0])
			} else {
				wantNoNumber(t, what, x, ok)
			}
		}
	}
	for _, kind := range []string{"[]", "[0]", "[1]", "[0 1]"} {
		if kinds[kind] < 100 {
			t.Errorf("forms %s: only %d", kind, kinds[kind])
		}
	}
}

// TestFormOfLightsIsKept: where the lights have a form, lit presses keep it.
func TestFormOfLightsIsKept(t *testing.T) {
	for _, game := range litGames() {
		if game.n == 5 {
			continue
		}
		for lights := range game.lit {
			form, ok := impl.FormOfLights(game.graph(), lights)
			list, _ := impl.ReachOf(game.graph(), lights)
			for _, other := range list {
				x, fine := impl.FormOfLights(game.graph(), other)
				if x != form || fine != ok {
					t.Errorf("%s: lights %d have the form %d %v, and %d have %d %v", game.text(), lights, form, ok, other, x, fine)
				}
			}
		}
	}
}

func TestFormOfLightsExamples(t *testing.T) {
	for _, c := range []struct {
		text         string
		lights, want int
	}{
		{"2:0-1", 0, 0}, {"2+:0-1", 1, 1}, {"2:0-1", 2, 1}, {"2:0-1", 3, 1},
		// The buttons 0 and 2 of a path have the same effect together as none, and the same form; so have all buttons of a triangle.
		{"3:0-1,1-2", 0, 0}, {"3+:0-1,1-2", 2, 1}, {"3+:0-1,1-2", 5, 1}, {"3:0-1,1-2", 7, 1}, {"4:0-1,2-3", 15, 0}, {"3:0-1,0-2,1-2", 0, 0}, {"3+:0-1,0-2,1-2", 6, 1},
	} {
		g, _ := impl.ParseGraph(c.text)
		x, ok := impl.FormOfLights(g, c.lights)
		wantNumber(t, fmt.Sprint(c), x, ok, c.want)
	}
	for _, c := range []struct {
		text   string
		lights int
	}{
		// No set toggles these lights.
		{"1:-", 1}, {"1+:-", 1}, {"3:0-1,1-2", 1}, {"3+:0-1,1-2", 6}, {"9+:-", 511},
		// A button without neighbours changes the form and not the effect; so do the buttons 0, 2 and 4 of a path.
		{"1:-", 0}, {"1+:-", 0}, {"9+:-", 0}, {"3:0-1", 0}, {"3:0-1", 3}, {"5:0-1,1-2,2-3,3-4", 0}, {"5+:0-1,1-2,2-3,3-4", 10},
	} {
		g, _ := impl.ParseGraph(c.text)
		x, ok := impl.FormOfLights(g, c.lights)
		wantNoNumber(t, fmt.Sprint(c), x, ok)
	}
}
