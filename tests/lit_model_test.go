package tests

import (
	"fmt"
	"slices"
	"sync"
	"testing"

	"loop.example/g01146/impl"
)

// net tells for each set where each button leads from it, or -1 if the button can't be used: an account of chapter 9 that spreads numbers along steps until they stay as they are, and keeps no list of what was reached.
type net [][]int

// litNet has the lit presses of all sets of lights.
func (m model) litNet() net {
	steps := make(net, power(m.n))
	for lights := range steps {
		for i := range m.n {
			next := -1
			if isIn(i, lights) {
				next = m.withOwn(false).press(lights, i)
			}
			steps[lights] = append(steps[lights], next)
		}
	}
	return steps
}

// reflectNet has the reflections of all sets of buttons.
func (m model) reflectNet() net {
	steps := make(net, power(m.n))
	for set := range steps {
		for i := range m.n {
			in := isIn(i, set) != (m.inner(i, set)%2 == 1)
			steps[set] = append(steps[set], m.sum(func(j int) bool {
				if j == i {
					return in
				}
				return isIn(j, set)
			}))
		}
	}
	return steps
}

// least tells for each set the least one that has an orbit with it.
func (steps net) least() []int {
	least := make([]int, len(steps))
	for set := range least {
		least[set] = set
	}
	for again := true; again; {
		again = false
		for set, nexts := range steps {
			for _, next := range nexts {
				if next != -1 && least[next] != least[set] {
					lesser := min(least[next], least[set])
					least[next], least[set], again = lesser, lesser, true
				}
			}
		}
	}
	return least
}

// away tells for each set how many steps lead to a goal, or -1.
func (steps net) away(goal int) []int {
	away := filled(len(steps), -1)
	away[goal] = 0
	for far, again := 0, true; again; far++ {
		again = false
		for set, nexts := range steps {
			for _, next := range nexts {
				if away[set] == -1 && next != -1 && away[next] == far {
					away[set], again = far+1, true
				}
			}
		}
	}
	return away
}

// way takes the least button that leads nearer to the goal, again and again.
func (steps net) way(away []int, from int) []int {
	word := []int{}
	for away[from] > 0 {
		i := slices.IndexFunc(steps[from], func(next int) bool { return next != -1 && away[next] == away[from]-1 })
		word, from = append(word, i), steps[from][i]
	}
	return word
}

// form counts the elements and the edges one by one.
func (m model) form(set int) int {
	count := len(buttonsOf(set))
	for _, e := range m.edges() {
		if isIn(e[0], set) && isIn(e[1], set) {
			count++
		}
	}
	return count % 2
}

// litGame has the account of a graph.
type litGame struct {
	model
	lit, reflect             net
	litLeast, reflectedLeast []int
}

func litGameOf(m model) litGame {
	game := litGame{model: m, lit: m.litNet(), reflect: m.reflectNet()}
	game.litLeast, game.reflectedLeast = game.lit.least(), game.reflect.least()
	return game
}

// orbit returns all sets with the same least one, increasing.
func orbit(least []int, of int) []int {
	var sets []int
	for set, x := range least {
		if x == least[of] {
			sets = append(sets, set)
		}
	}
	return sets
}

// treeModel has an edge from each button but 0 to a lesser one.
func treeModel(parents ...int) model {
	m := modelOf(len(parents)+1, false)
	for k, parent := range parents {
		m.join(k+1, parent)
	}
	return m
}

// litGames has all graphs of up to 4 buttons, those of 5 without Own, and of up to MaxLit buttons those without edges, with all and with some of them, grids, circles, tori, stars, pairs, and trees.
var litGames = sync.OnceValue(func() []litGame {
	var models []model
	for _, m := range append(allModels(5), bigModels()...) {
		if m.n <= 4 || m.n == 5 && !m.own || m.n <= impl.MaxLit && m.n > 5 {
			models = append(models, m)
		}
	}
	d := &dice{state: 91}
	for n := 6; n <= impl.MaxLit; n++ {
		own := n%2 == 0
		path := gridModel(1, n, own, false)
		models = append(models, path, path.renamed(d.shuffled(buttonsOf(power(n)-1))), gridModel(1, n, !own, true), starModel(n, n/2, own), pairsModel(n, n/2).withOwn(own))
		models = append(models, someForest(n, 5, d).withOwn(!own), someForest(n, 20, d).withOwn(own), twinModel(n, 3, own, d))
	}
	for _, closed := range []bool{false, true} {
		models = append(models, gridModel(2, 3, true, closed), gridModel(2, 4, false, closed), gridModel(3, 3, true, closed), gridModel(3, 3, false, closed))
	}
	var all []litGame
	for _, m := range models {
		all = append(all, litGameOf(m))
	}
	return all
})

// noLitGraphs gives what is no graph, and graphs that have too many buttons.
func noLitGraphs() []impl.Graph {
	bad := badGraphs()
	for n := impl.MaxLit + 1; n <= impl.MaxButtons; n++ {
		for _, own := range []bool{false, true} {
			bad = append(bad, modelOf(n, own).graph(), fullModel(n, own).graph(), gridModel(1, n, own, false).graph())
		}
	}
	return bad
}

// litCalls has the functions that take a graph and a set; where they take more, that is the button 0, words of it or of none, and sets to go to or from.
func litCalls() map[string]func(g impl.Graph, set int) ([]int, bool) {
	return map[string]func(g impl.Graph, set int) ([]int, bool){
		"LitPress":     func(g impl.Graph, set int) ([]int, bool) { return asList(impl.LitPress(g, set, 0)) },
		"LitWord":      func(g impl.Graph, set int) ([]int, bool) { return asList(impl.LitWord(g, set, []int{0})) },
		"LitWord none": func(g impl.Graph, set int) ([]int, bool) { return asList(impl.LitWord(g, set, nil)) },
		"LitMoves":     impl.LitMoves,
		"ReachOf":      impl.ReachOf,
		"FewestLit":    func(g impl.Graph, set int) ([]int, bool) { return asList(impl.FewestLit(g, set)) },
		"WayTo":        func(g impl.Graph, set int) ([]int, bool) { return impl.WayTo(g, set, 1) },
		"WayTo itself": func(g impl.Graph, set int) ([]int, bool) { return impl.WayTo(g, set, set) },
		"WayTo set":    func(g impl.Graph, set int) ([]int, bool) { return impl.WayTo(g, 1, set) },
		"FormOf":       func(g impl.Graph, set int) ([]int, bool) { return asList(impl.FormOf(g, set)) },
		"ReflectSet":   func(g impl.Graph, set int) ([]int, bool) { return asList(impl.ReflectSet(g, set, 0)) },
		"ReflectWord":  func(g impl.Graph, set int) ([]int, bool) { return asList(impl.ReflectWord(g, set, []int{0})) },
		"ReflectWord none": func(g impl.Graph, set int) ([]int, bool) {
			return asList(impl.ReflectWord(g, set, nil))
		},
		"ReflectOrbit": impl.ReflectOrbit,
		"FormOfLights": func(g impl.Graph, set int) ([]int, bool) { return asList(impl.FormOfLights(g, set)) },
	}
}

// orbitCalls has the functions that take a graph alone.
func orbitCalls() map[string]func(g impl.Graph) ([]int, bool) {
	return map[string]func(g impl.Graph) ([]int, bool){
		"CountOrbits": func(g impl.Graph) ([]int, bool) { return asList(impl.CountOrbits(g)) },
		"OrbitSizes":  impl.OrbitSizes,
		"LeastLights": impl.LeastLights,
		"FormSpread": func(g impl.Graph) ([]int, bool) {
			even, odd, ok := impl.FormSpread(g)
			if !ok && even == 0 && odd == 0 {
				return nil, false
			}
			return []int{even, odd}, ok
		},
	}
}

// wantNoLit requires all functions that take a graph and a set to refuse them.
func wantNoLit(t *testing.T, what string, g impl.Graph, set int) {
	t.Helper()
	for name, call := range litCalls() {
		list, ok := call(g, set)
		wantNoList(t, name+" "+what, list, ok)
	}
}

// wantNoLitGraph requires all functions of the chapter to refuse a graph.
func wantNoLitGraph(t *testing.T, what string, g impl.Graph) {
	t.Helper()
	for _, set := range []int{0, 1, 3} {
		wantNoLit(t, what, g, set)
	}
	for name, call := range orbitCalls() {
		list, ok := call(g)
		wantNoList(t, name+" "+what, list, ok)
	}
}

func TestLitInvalid(t *testing.T) {
	for _, g := range noLitGraphs() {
		wantNoLitGraph(t, fmt.Sprint(g), g)
	}
	for _, game := range litGames() {
		if game.n == 5 {
			continue
		}
		for _, set := range notBelow(power(game.n)) {
			wantNoLit(t, fmt.Sprint(game.text(), " ", set), game.graph(), set)
		}
	}
}

// TestOwnDoesNotMatter has each graph with and without Own.
func TestOwnDoesNotMatter(t *testing.T) {
	d := &dice{state: 92}
	for _, game := range litGames() {
		without, with := game.withOwn(false).graph(), game.withOwn(true).graph()
		for _, set := range someLights(game.model, d) {
			for name, call := range litCalls() {
				a, fine := call(without, set)
				b, ok := call(with, set)
				if fine != ok || !slices.Equal(a, b) {
					t.Errorf("%s %s %d: %v %v without Own, %v %v with it", name, game.text(), set, a, fine, b, ok)
				}
			}
		}
		for name, call := range orbitCalls() {
			want, fine := call(without)
			list, ok := call(with)
			wantList(t, name+" "+game.text(), list, ok && fine, want)
		}
	}
}

// follow returns -1 if a button can't be used.
func (steps net) follow(set int, word []int) int {
	for _, i := range word {
		if set != -1 {
			set = steps[set][i]
		}
	}
	return set
}

// TestLitModel holds the account itself against all words of up to 6 buttons, and against examples that are seen at once.
func TestLitModel(t *testing.T) {
	for _, m := range allModels(3) {
		game := litGameOf(m)
		for _, steps := range []net{game.lit, game.reflect} {
			for goal := range steps {
				away, least := steps.away(goal), steps.least()
				for from := range steps {
					first := []int{-1}
					for length := 6; length >= 0; length-- {
						for _, word := range slices.Backward(allTints(length, m.n)) {
							if steps.follow(from, word) == goal {
								first = word
							}
						}
					}
					reached := !slices.Equal(first, []int{-1})
					if reached != (away[from] != -1) || reached != (least[from] == least[goal]) || reached && !slices.Equal(steps.way(away, from), first) {
						t.Errorf("%s from %d to %d: %v by words, %v by numbers", m.text(), from, goal, first, steps.way(away, from))
					}
				}
			}
		}
	}
	path := litGameOf(gridModel(1, 3, true, false))
	if !slices.Equal(path.lit[3], []int{1, 6, -1}) || !slices.Equal(path.reflect[3], []int{2, 1, 7}) || !slices.Equal(orbit(path.litLeast, 6), []int{1, 3, 4, 6}) || path.form(3) != 1 || path.form(7) != 1 || path.form(5) != 0 {
		t.Error(path.lit[3], path.reflect[3], orbit(path.litLeast, 6), path.form(3), path.form(7), path.form(5))
	}
}
