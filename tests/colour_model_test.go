package tests

import (
	"slices"
	"sync"
	"testing"

	"loop.example/g01146/impl"
)

// tint is a list of colours, with zeros behind its last number.
type tint [10]int

// tinted counts the presses with each effect, those of the first half of the buttons and those of the second one apart: an account of chapter 7 that looks through all lists and eliminates nothing.
type tinted struct {
	model
	m      int
	halves [2]map[tint]int
	// firsts has the places at which a quiet list has its first number other than 0.
	firsts []int
	quiet  int
}

func tintedOf(of model, m int) tinted {
	c := tinted{model: of, m: m}
	c.halves = c.halvesFrom(0)
	c.quiet = c.count(c.halves, filled(c.n, 0))
	before := c.quiet
	for i := range c.n {
		// If there are fewer quiet lists without presses up to i than before it, one of them has its first number at i.
		behind := c.count(c.halvesFrom(i+1), filled(c.n, 0))
		if behind < before {
			c.firsts = append(c.firsts, i)
		}
		before = behind
	}
	return c
}

// halvesFrom leaves the buttons before the given one alone.
func (c tinted) halvesFrom(from int) [2]map[tint]int {
	middle := (from + c.n) / 2
	return [2]map[tint]int{c.effects(from, middle), c.effects(middle, c.n)}
}

// effects counts the lists of presses of some buttons with each effect.
func (c tinted) effects(from, to int) map[tint]int {
	counts := map[tint]int{{}: 1}
	for i := from; i < to; i++ {
		more := map[tint]int{}
		for e, count := range counts {
			for range c.m {
				more[e] += count
				for j := range c.n {
					if c.toggles(i, j) {
						e[j] = (e[j] + 1) % c.m
					}
				}
			}
		}
		counts = more
	}
	return counts
}

// count returns how many lists solve the lights: both halves have to put them out together.
func (c tinted) count(halves [2]map[tint]int, lights []int) int {
	count := 0
	for e, times := range halves[0] {
		var rest tint
		for j := range c.n {
			rest[j] = (2*c.m - e[j] - lights[j]) % c.m
		}
		count += times * halves[1][rest]
	}
	return count
}

func (c tinted) solutions(lights []int) int { return c.count(c.halves, lights) }

// behind tells the colours behind pressing each button as often as told.
func (c tinted) behind(lights, presses []int) []int {
	list := slices.Clone(lights)
	for j := range list {
		for i, times := range presses {
			if c.toggles(i, j) {
				list[j] += times
			}
		}
		list[j] %= c.m
	}
	return list
}

func (c tinted) effect(presses []int) []int { return c.behind(filled(c.n, 0), presses) }

// tally counts how often a word has each button.
func (c tinted) tally(word []int) []int {
	presses := filled(c.n, 0)
	for _, i := range word {
		presses[i]++
	}
	return presses
}

func isAll(list []int, x int) bool {
	return !slices.ContainsFunc(list, func(y int) bool { return x != y })
}

// isList reports whether a list has a colour for each button.
func (c tinted) isList(list []int) bool {
	return len(list) == c.n && !slices.ContainsFunc(list, func(x int) bool { return x < 0 || x >= c.m })
}

func meet(m int, a, b []int) int {
	sum := 0
	for k, x := range a {
		sum += x * b[k]
	}
	return sum % m
}

// allTints gives all lists of n colours in lexicographic order.
func allTints(n, m int) [][]int {
	lists := [][]int{{}}
	for range n {
		var longer [][]int
		for _, list := range lists {
			for x := range m {
				longer = append(longer, append(slices.Clone(list), x))
			}
		}
		lists = longer
	}
	return lists
}

func (d *dice) tint(n, m int) []int { return d.word(m, n) }

// someTints gives all lists of a small board, and a few of a great one.
func (c tinted) someTints(d *dice) [][]int {
	size := 1
	for range c.n {
		size *= c.m
	}
	if size <= 350 {
		return allTints(c.n, c.m)
	}
	lists := [][]int{filled(c.n, 0), filled(c.n, 1), filled(c.n, c.m-1)}
	for _, i := range []int{0, c.n / 2, c.n - 1} {
		single := filled(c.n, 0)
		single[i] = 1 + d.below(c.m-1)
		lists = append(lists, single)
	}
	for range 4 {
		lists = append(lists, d.tint(c.n, c.m))
	}
	return lists
}

// boards gives lights, some of which are sure to be solved.
func (c tinted) boards(d *dice) [][]int {
	lists := c.someTints(d)
	for range 5 {
		lists = append(lists, c.effect(d.tint(c.n, c.m)))
	}
	return lists
}

// determinant adds the products of all choices of one place a row and a column, with their signs.
func (m model) determinant() int {
	sums := filled(power(m.n), 0)
	sums[0] = 1
	for used := range sums {
		row := len(buttonsOf(used))
		for j := range m.n {
			if !isIn(j, used) && m.toggles(row, j) {
				sign := 1 - 2*(len(buttonsOf(used>>j))%2)
				sums[used+power(j)] += sign * sums[used]
			}
		}
	}
	return sums[power(m.n)-1]
}

func primes() []int { return []int{2, 3, 5, 7} }

// noPrimes gives numbers of colours that the chapter does not have.
func noPrimes() []int {
	return append(notBelow(8), 0, 1, 4, 6, 10, 11, 13, 17, 49, 64, -3, -5, -7, power(32)+2, power(62)+3, 2-power(62))
}

// twinModel repeats the buttons of a smaller graph so that copies toggle the same lights, and mixes the names.
func twinModel(n, originals int, own bool, d *dice) model {
	small := someModel(originals, 2, d)
	m := modelOf(n, own)
	for i := range n {
		for j := range i {
			a, b := i%originals, j%originals
			if a == b && own || a != b && small.near[a][b] {
				m.join(i, j)
			}
		}
	}
	return m.renamed(d.shuffled(buttonsOf(power(n) - 1)))
}

// colourModels has all graphs of up to 4 buttons, and of up to 10 those without edges, with all and with some of them, grids, circles, tori, and graphs with many quiet lists.
func colourModels() []model {
	models := allModels(4)
	for _, m := range bigModels() {
		if m.n <= impl.MaxColoured {
			models = append(models, m)
		}
	}
	d := &dice{state: 71}
	for _, own := range []bool{false, true} {
		for rows := 1; rows <= 3; rows++ {
			for columns := max(rows, 5-rows); rows*columns <= impl.MaxColoured; columns++ {
				models = append(models, gridModel(rows, columns, own, false), gridModel(rows, columns, own, true))
			}
		}
		for n := 5; n <= impl.MaxColoured; n++ {
			for originals := 2; originals < n; originals += 2 {
				models = append(models, twinModel(n, originals, own, d))
			}
		}
	}
	return models
}

// tints has each of these graphs with each number of colours.
var tints = sync.OnceValue(func() []tinted {
	var all []tinted
	for _, of := range colourModels() {
		for _, m := range primes() {
			all = append(all, tintedOf(of, m))
		}
	}
	return all
})

// colourCalls has the functions that take a graph and a number of colours; those without a list leave it out.
func colourCalls() map[string]func(g impl.Graph, m int, list []int) ([]int, bool) {
	joined := func(lists [][]int, ok bool) ([]int, bool) { return slices.Concat(lists...), ok }
	return map[string]func(g impl.Graph, m int, list []int) ([]int, bool){
		"EffectColours":  impl.EffectColours,
		"PressColours":   func(g impl.Graph, m int, list []int) ([]int, bool) { return impl.PressColours(g, m, list, []int{0}) },
		"RankColours":    func(g impl.Graph, m int, _ []int) ([]int, bool) { return asList(impl.RankColours(g, m)) },
		"NullityColours": func(g impl.Graph, m int, _ []int) ([]int, bool) { return asList(impl.NullityColours(g, m)) },
		"QuietColours":   func(g impl.Graph, m int, _ []int) ([]int, bool) { return joined(impl.QuietColours(g, m)) },
		"SolveColours":   impl.SolveColours,
		"WitnessColours": impl.WitnessColours,
		"CountColourSolutions": func(g impl.Graph, m int, list []int) ([]int, bool) {
			return asList(impl.CountColourSolutions(g, m, list))
		},
		"DeterminantColours": func(g impl.Graph, m int, _ []int) ([]int, bool) { return asList(impl.DeterminantColours(g, m)) },
		"AllAtOnce":          func(g impl.Graph, m int, _ []int) ([]int, bool) { return impl.AllAtOnce(g, m) },
		"PeriodOf":           func(g impl.Graph, m int, _ []int) ([]int, bool) { return asList(impl.PeriodOf(g, m, []int{0})) },
	}
}

// listCalls has those of them that take a list of colours.
func listCalls() []string {
	return []string{"EffectColours", "PressColours", "SolveColours", "WitnessColours", "CountColourSolutions"}
}

// wantNoColours requires all these functions to refuse a graph or a number of colours.
func wantNoColours(t *testing.T, what string, g impl.Graph, m int, list []int) {
	t.Helper()
	for name, call := range colourCalls() {
		result, ok := call(g, m, list)
		wantNoList(t, name+" "+what, result, ok)
	}
	answer, ok := impl.IsColours(g, m, list)
	wantNoAnswer(t, "IsColours "+what, answer, ok)
}

// TestColourModel holds the account itself against lists that are looked through one by one.
func TestColourModel(t *testing.T) {
	for _, c := range tints() {
		if c.n > 3 {
			continue
		}
		quiet, firsts := 0, map[int]bool{}
		for _, presses := range allTints(c.n, c.m) {
			if isAll(c.effect(presses), 0) {
				quiet++
				firsts[slices.IndexFunc(presses, func(x int) bool { return x != 0 })] = true
			}
		}
		delete(firsts, -1)
		if quiet != c.quiet || len(firsts) != len(c.firsts) || slices.ContainsFunc(c.firsts, func(i int) bool { return !firsts[i] }) {
			t.Errorf("%s %d: %d quiet lists from %v, want %d from %v", c.text(), c.m, c.quiet, c.firsts, quiet, firsts)
		}
	}
}
