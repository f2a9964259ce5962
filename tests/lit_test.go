package tests

import (
	"fmt"
	"slices"
	"testing"

	"loop.example/g01146/impl"
)

// Promise 9, first half: lit presses, and their orbits that share all lights.

func TestLitLimits(t *testing.T) {
	if impl.MaxLit != 9 {
		t.Error(impl.MaxLit)
	}
}

func TestLitExamples(t *testing.T) {
	path := gridModel(1, 3, true, false).graph()
	for _, c := range []struct{ lights, i, want int }{{1, 0, 3}, {3, 1, 6}, {6, 2, 4}, {3, 0, 1}, {7, 1, 2}, {5, 2, 7}} {
		x, ok := impl.LitPress(path, c.lights, c.i)
		wantNumber(t, fmt.Sprint(c), x, ok, c.want)
	}
	list, ok := impl.ReachOf(path, 1)
	wantList(t, "orbit", list, ok, []int{1, 3, 4, 6})
	list, ok = impl.WayTo(path, 1, 4)
	wantList(t, "way", list, ok, []int{0, 1, 2})
	list, ok = impl.WayTo(path, 1, 2)
	wantNoList(t, "no way", list, ok)
	x, ok := impl.CountOrbits(path)
	wantNumber(t, "orbits", x, ok, 3)
	list, ok = impl.OrbitSizes(path)
	wantList(t, "sizes", list, ok, []int{1, 3, 4})
	list, ok = impl.LeastLights(path)
	wantList(t, "least lights", list, ok, []int{0, 1, 2})
	x, ok = impl.FewestLit(path, 7)
	wantNumber(t, "fewest", x, ok, 1)
}

// TestNoButtonLit has all functions that take lights.
func TestNoButtonLit(t *testing.T) {
	for _, game := range litGames() {
		g := game.graph()
		for i := range game.n {
			x, ok := impl.LitPress(g, 0, i)
			wantNoNumber(t, fmt.Sprint("press ", game.text(), i), x, ok)
			list, ok := impl.WayTo(g, 0, power(i))
			wantNoList(t, fmt.Sprint("way ", game.text(), i), list, ok)
			list, ok = impl.WayTo(g, power(i), 0)
			wantNoList(t, fmt.Sprint("way back ", game.text(), i), list, ok)
		}
		x, ok := impl.LitWord(g, 0, nil)
		wantNumber(t, "word "+game.text(), x, ok, 0)
		list, ok := impl.LitMoves(g, 0)
		wantList(t, "moves "+game.text(), list, ok, nil)
		list, ok = impl.ReachOf(g, 0)
		wantList(t, "orbit "+game.text(), list, ok, []int{0})
		x, ok = impl.FewestLit(g, 0)
		wantNumber(t, "fewest "+game.text(), x, ok, 0)
		list, ok = impl.WayTo(g, 0, 0)
		wantList(t, "way to itself "+game.text(), list, ok, nil)
	}
}

// TestLitPress has all sets of lights and all buttons.
func TestLitPress(t *testing.T) {
	for _, game := range litGames() {
		g := game.graph()
		for lights, nexts := range game.lit {
			var moves []int
			for i, want := range nexts {
				what := fmt.Sprint(game.text(), lights, i)
				x, ok := impl.LitPress(g, lights, i)
				if want == -1 {
					wantNoNumber(t, what, x, ok)
					continue
				}
				wantNumber(t, what, x, ok, want)
				x, ok = impl.LitPress(g, x, i)
				wantNumber(t, "undone "+what, x, ok, lights)
				if want != lights {
					moves = append(moves, i)
				}
			}
			list, ok := impl.LitMoves(g, lights)
			wantList(t, fmt.Sprint("moves ", game.text(), lights), list, ok, moves)
		}
	}
}

func TestLitMovesExamples(t *testing.T) {
	for _, c := range []struct {
		text   string
		lights int
		want   []int
	}{
		{"1:-", 1, nil}, {"1+:-", 1, nil}, {"9+:-", 511, nil}, {"3:0-1", 7, []int{0, 1}}, {"3:0-1", 4, nil}, {"3:0-1", 5, []int{0}}, {"3+:0-1,1-2", 5, []int{0, 2}}, {"9:0-8", 511, []int{0, 8}}, {"9:0-8", 256, []int{8}},
	} {
		g, _ := impl.ParseGraph(c.text)
		list, ok := impl.LitMoves(g, c.lights)
		wantList(t, fmt.Sprint(c), list, ok, c.want)
	}
}

// litWord has buttons that are lit when they are pressed; it may be shorter, if none is.
func (steps net) litWord(set, length int, d *dice) []int {
	word := []int{}
	for range length {
		var lit []int
		for i, next := range steps[set] {
			if next != -1 {
				lit = append(lit, i)
			}
		}
		if len(lit) == 0 {
			break
		}
		i := lit[d.below(len(lit))]
		word, set = append(word, i), steps[set][i]
	}
	return word
}

func TestLitWord(t *testing.T) {
	d := &dice{state: 93}
	for _, game := range litGames() {
		g := game.graph()
		for _, length := range []int{0, 1, 2, 3, 10, 199, 200, 201} {
			for range 5 {
				lights := d.below(power(game.n))
				good, other := game.lit.litWord(lights, length, d), d.word(game.n, min(length, 10))
				for _, word := range [][]int{good, other, append(slices.Clone(good[:len(good)/2]), other...)} {
					want, what := game.lit.follow(lights, word), fmt.Sprint(game.text(), lights, word)
					x, ok := impl.LitWord(g, lights, word)
					if want == -1 || len(word) > 200 {
						wantNoNumber(t, what, x, ok)
						continue
					}
					wantNumber(t, what, x, ok, want)
					slices.Reverse(word)
					x, ok = impl.LitWord(g, want, word)
					wantNumber(t, "back "+what, x, ok, lights)
				}
			}
		}
	}
}

func TestLitWordLimits(t *testing.T) {
	g := modelOf(2, true, [2]int{0, 1}).graph()
	x, ok := impl.LitWord(g, 1, filled(200, 0))
	wantNumber(t, "200 presses", x, ok, 1)
	x, ok = impl.LitWord(g, 1, filled(199, 0))
	wantNumber(t, "199 presses", x, ok, 3)
	for _, long := range []int{201, 202, 400, 5000} {
		x, ok = impl.LitWord(g, 1, filled(long, 0))
		wantNoNumber(t, fmt.Sprint(long, " presses"), x, ok)
	}
	// The button 1 is lit by the first press, and put out by the second one.
	for _, c := range []struct {
		word []int
		want int
	}{{nil, 1}, {[]int{}, 1}, {[]int{0}, 3}, {[]int{0, 1}, 2}, {[]int{0, 1, 1, 0}, 1}, {[]int{1}, -1}, {[]int{0, 0, 1}, -1}, {[]int{0, 1, 0}, -1}, {[]int{1, 0}, -1}} {
		x, ok = impl.LitWord(g, 1, c.word)
		if c.want == -1 {
			wantNoNumber(t, fmt.Sprint(c), x, ok)
		} else {
			wantNumber(t, fmt.Sprint(c), x, ok, c.want)
		}
	}
}

// TestLitButtonsInvalid has numbers that are no buttons, alone and in words.
func TestLitButtonsInvalid(t *testing.T) {
	for _, m := range []model{modelOf(1, true), gridModel(1, 3, true, false), modelOf(9, false), fullModel(9, true)} {
		g, all := m.graph(), power(m.n)-1
		for _, i := range notBelow(m.n) {
			what := fmt.Sprint(m.text(), i)
			x, ok := impl.LitPress(g, all, i)
			wantNoNumber(t, what, x, ok)
			x, ok = impl.ReflectSet(g, all, i)
			wantNoNumber(t, what, x, ok)
			for _, word := range [][]int{{i}, {0, i}, {i, 0}, append(filled(199, 0), i)} {
				x, ok = impl.LitWord(g, all, word)
				wantNoNumber(t, what, x, ok)
				x, ok = impl.ReflectWord(g, all, word)
				wantNoNumber(t, what, x, ok)
			}
		}
	}
}

// TestOrbits has the orbits of all sets of lights.
func TestOrbits(t *testing.T) {
	for _, game := range litGames() {
		g := game.graph()
		for lights := range game.lit {
			what, want := fmt.Sprint(game.text(), lights), orbit(game.litLeast, lights)
			list, ok := impl.ReachOf(g, lights)
			wantList(t, what, list, ok, want)
			x, ok := impl.FewestLit(g, lights)
			wantNumber(t, what, x, ok, len(buttonsOf(fewest(want))))
		}
	}
}

// TestOrbitsShareAllLights: each set of lights is in just one of the orbits.
func TestOrbitsShareAllLights(t *testing.T) {
	for _, game := range litGames() {
		g := game.graph()
		least, ok := impl.LeastLights(g)
		wantList(t, "least lights "+game.text(), least, ok, slices.Compact(slices.Sorted(slices.Values(game.litLeast))))
		times, sizes := filled(power(game.n), 0), []int{}
		for _, lights := range least {
			list, _ := impl.ReachOf(g, lights)
			sizes = append(sizes, len(list))
			for _, other := range list {
				times[other]++
			}
		}
		if !isAll(times, 1) {
			t.Errorf("%s: orbits have each set so often: %v", game.text(), times)
		}
		slices.Sort(sizes)
		list, ok := impl.OrbitSizes(g)
		wantList(t, "sizes "+game.text(), list, ok, sizes)
		x, ok := impl.CountOrbits(g)
		wantNumber(t, "orbits "+game.text(), x, ok, len(least))
	}
}

// choose counts the sets of k of n.
func choose(n, k int) int {
	if k == 0 || k == n {
		return 1
	}
	return choose(n-1, k-1) + choose(n-1, k)
}

// TestOrbitsOfPaths: lights of a path tell where n + 1 places change between two kinds, and a lit press exchanges two neighbouring places of different kinds, so that the orbits go by how many places of a kind there are.
func TestOrbitsOfPaths(t *testing.T) {
	for n := 1; n <= impl.MaxLit; n++ {
		var sizes, reflected []int
		for k := range n + 2 {
			if 2*k < n+1 {
				sizes = append(sizes, choose(n+1, k))
			}
			if 2*k == n+1 {
				sizes = append(sizes, choose(n+1, k)/2)
			}
			if k%2 == 0 {
				reflected = append(reflected, choose(n+1, k))
			}
		}
		slices.Sort(sizes)
		g := gridModel(1, n, n%2 == 0, false).graph()
		list, ok := impl.OrbitSizes(g)
		wantList(t, fmt.Sprint("path of ", n), list, ok, sizes)
		// Reflections exchange neighbouring places, too, of which a set has an even number.
		x, ok := impl.ReflectOrbit(g, 1)
		wantNumber(t, fmt.Sprint("reflected path of ", n), len(x), ok, reflected[1])
	}
}

// TestOrbitsOfTrees has two trees of which the orbits are known well.
func TestOrbitsOfTrees(t *testing.T) {
	for _, c := range []struct {
		m         model
		sizes     []int
		even, odd int
	}{
		{treeModel(0, 1, 2, 3, 2), []int{1, 27, 36}, 28, 36},
		{treeModel(0, 1, 2, 3, 4, 5, 2), []int{1, 120, 135}, 136, 120},
	} {
		list, ok := impl.OrbitSizes(c.m.graph())
		wantList(t, c.m.text(), list, ok, c.sizes)
		even, odd, ok := impl.FormSpread(c.m.graph())
		wantList(t, c.m.text(), []int{even, odd}, ok, []int{c.even, c.odd})
	}
}

func TestOrbitExamples(t *testing.T) {
	for text, want := range map[string][]int{
		"1:-": {1, 1}, "1+:-": {1, 1}, "2:-": {1, 1, 1, 1}, "2+:0-1": {1, 3}, "3:0-1": {1, 1, 3, 3}, "4:0-1,2-3": {1, 3, 3, 9}, "3:0-1,0-2,1-2": {1, 3, 4}, "9+:-": filled(512, 1), "9:0-1": append(filled(128, 1), filled(128, 3)...),
	} {
		g, _ := impl.ParseGraph(text)
		list, ok := impl.OrbitSizes(g)
		wantList(t, text, list, ok, want)
		x, ok := impl.CountOrbits(g)
		wantNumber(t, text, x, ok, len(want))
	}
	for text, want := range map[string][]int{"1:-": {0, 1}, "2:-": {0, 1, 2, 3}, "2+:0-1": {0, 1}, "3:0-1": {0, 1, 4, 5}, "3:1-2": {0, 1, 2, 3}, "4:0-1,2-3": {0, 1, 4, 5}} {
		g, _ := impl.ParseGraph(text)
		list, ok := impl.LeastLights(g)
		wantList(t, text, list, ok, want)
	}
}

// TestWayTo has all pairs of sets of lights of up to 5 buttons, and some goals of more.
func TestWayTo(t *testing.T) {
	d := &dice{state: 94}
	for _, game := range litGames() {
		goals := d.word(power(game.n), 4)
		if game.n <= 4 || game.n == 5 && len(game.edges())%3 == 0 {
			goals = buttonsOf(power(power(game.n)) - 1)
		}
		for _, goal := range goals {
			away := game.lit.away(goal)
			for lights, far := range away {
				what := fmt.Sprint(game.text(), " from ", lights, " to ", goal)
				word, ok := impl.WayTo(game.graph(), lights, goal)
				if far == -1 {
					wantNoList(t, what, word, ok)
					continue
				}
				wantList(t, what, word, ok, game.lit.way(away, lights))
				x, ok := impl.LitWord(game.graph(), lights, word)
				wantNumber(t, what, x, ok, goal)
			}
		}
	}
}

func TestWayToExamples(t *testing.T) {
	for _, c := range []struct {
		text         string
		lights, goal int
		want         []int
	}{
		{"1:-", 0, 0, nil}, {"1:-", 1, 1, nil}, {"9+:-", 511, 511, nil}, {"2:0-1", 1, 1, nil}, {"2:0-1", 1, 2, []int{0, 1}}, {"2:0-1", 2, 3, []int{1}}, {"9:0-8", 257, 256, []int{8}},
		// Two buttons with the same neighbours do the same.
		{"3:0-2,1-2", 3, 7, []int{0}}, {"4:0-3,1-3,2-3", 6, 14, []int{1}}, {"5:0-4,1-4,2-3", 15, 23, []int{0, 2}},
		// Presses of buttons that are no neighbours may be exchanged.
		{"4:0-1,2-3", 5, 15, []int{0, 2}}, {"4:0-1,2-3", 15, 5, []int{0, 2}}, {"4:0-2,1-3", 3, 12, []int{0, 1, 2, 3}}, {"6:0-1,2-3,4-5", 21, 42, []int{0, 1, 2, 3, 4, 5}},
		{"9:0-1,1-2,2-3,3-4,4-5,5-6,6-7,7-8", 1, 256, []int{0, 1, 2, 3, 4, 5, 6, 7, 8}}, {"9:0-1,1-2,2-3,3-4,4-5,5-6,6-7,7-8", 256, 1, []int{8, 7, 6, 5, 4, 3, 2, 1, 0}},
	} {
		g, _ := impl.ParseGraph(c.text)
		list, ok := impl.WayTo(g, c.lights, c.goal)
		wantList(t, fmt.Sprint(c), list, ok, c.want)
	}
	for _, c := range []struct {
		text         string
		lights, goal int
	}{{"1:-", 1, 0}, {"1:-", 0, 1}, {"2:-", 1, 2}, {"2:0-1", 0, 3}, {"2:0-1", 3, 0}, {"3:0-1", 1, 5}, {"3:0-1,1-2", 1, 7}, {"9+:-", 511, 510}} {
		g, _ := impl.ParseGraph(c.text)
		list, ok := impl.WayTo(g, c.lights, c.goal)
		wantNoList(t, fmt.Sprint(c), list, ok)
	}
}

// TestWayToInvalid has sets of lights and goals that are none.
func TestWayToInvalid(t *testing.T) {
	for _, game := range litGames() {
		if game.n == 5 {
			continue
		}
		for _, set := range notBelow(power(game.n)) {
			for _, c := range [][2]int{{set, 0}, {0, set}, {set, set}, {power(game.n) - 1, set}} {
				list, ok := impl.WayTo(game.graph(), c[0], c[1])
				wantNoList(t, fmt.Sprint(game.text(), c), list, ok)
			}
		}
	}
}

// TestMaxLitButtons: as many buttons as may be, and one more.
func TestMaxLitButtons(t *testing.T) {
	for _, own := range []bool{false, true} {
		path := gridModel(1, 9, own, false).graph()
		x, ok := impl.LitPress(path, 256, 8)
		wantNumber(t, "press", x, ok, 256+128)
		x, ok = impl.CountOrbits(path)
		wantNumber(t, "orbits", x, ok, 6)
		x, ok = impl.FewestLit(path, 511)
		wantNumber(t, "fewest", x, ok, 1)
		list, ok := impl.ReachOf(path, 256)
		wantNumber(t, "orbit", len(list), ok, 10)
		for n := 10; n <= 16; n++ {
			wantNoLitGraph(t, fmt.Sprint("path of ", n), gridModel(1, n, own, false).graph())
		}
	}
}

func TestLitIsKept(t *testing.T) {
	near, word := []int{2, 5, 2, 9}[:3], []int{0, 1, 99}[:2]
	g := impl.Graph{Near: near}
	for range 2 {
		x, ok := impl.LitWord(g, 1, word)
		wantNumber(t, "word", x, ok, 6)
		x, ok = impl.ReflectWord(g, 2, word)
		wantNumber(t, "reflected", x, ok, 1)
		list, ok := impl.ReachOf(g, 1)
		wantList(t, "orbit", list, ok, []int{1, 3, 4, 6})
		list[0] = 99
		list, ok = impl.ReflectOrbit(g, 1)
		wantList(t, "reflected orbit", list, ok, []int{1, 2, 3, 4, 6, 7})
		list[0] = 99
		x, ok = impl.FormOfLights(g, 2)
		wantNumber(t, "form", x, ok, 1)
		if !slices.Equal(near[:4], []int{2, 5, 2, 9}) || !slices.Equal(word[:3], []int{0, 1, 99}) {
			t.Error("changed:", near[:4], word[:3])
		}
	}
}
