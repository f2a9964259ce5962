package tests

import (
	"slices"
	"sync"
	"testing"
)

// truth tells the effects of all sets of presses: an account of chapter 2 that looks through them and makes no basis.
type truth struct {
	model
	effects []int
}

func truthOf(m model) truth {
	effects := []int{0}
	for i := range m.n {
		toggled := m.press(0, i)
		for _, e := range slices.Clone(effects) {
			effects = append(effects, e^toggled)
		}
	}
	return truth{m, effects}
}

// truths has graphs without edges and with all of them, each with and without Own, and grids, circles and tori.
var truths = sync.OnceValue(func() []truth {
	models := someModels()
	for _, own := range []bool{false, true} {
		for rows := 1; rows <= 5; rows++ {
			for columns := 1; rows*columns <= 16; columns++ {
				models = append(models, gridModel(rows, columns, own, false), gridModel(rows, columns, own, true))
			}
		}
	}
	var all []truth
	for _, m := range models {
		all = append(all, truthOf(m))
	}
	return all
})

// solutions returns all sets of presses that solve the lights, increasing.
func (tr truth) solutions(lights int) []int {
	var found []int
	for presses, effect := range tr.effects {
		if effect == lights {
			found = append(found, presses)
		}
	}
	return found
}

func (tr truth) quiet() []int { return tr.solutions(0) }

// image returns all sets of lights that can be solved, increasing.
func (tr truth) image() []int {
	return slices.Compact(slices.Sorted(slices.Values(tr.effects)))
}

// tops returns the greatest elements of all sets other than 0.
func tops(sets []int) map[int]bool {
	found := map[int]bool{}
	for _, s := range sets {
		if s != 0 {
			found[top(s)] = true
		}
	}
	return found
}

func top(set int) int {
	buttons := buttonsOf(set)
	return buttons[len(buttons)-1]
}

func hasNone(set int, places map[int]bool) bool {
	for _, i := range buttonsOf(set) {
		if places[i] {
			return false
		}
	}
	return true
}

// firstWitness returns the least quiet pattern that has an odd number of elements in common with the lights, if there is one.
func (tr truth) firstWitness(lights int) (int, bool) {
	for _, q := range tr.quiet() {
		if len(buttonsOf(q&lights))%2 == 1 {
			return q, true
		}
	}
	return 0, false
}

// fewest returns the first of some sets that has the least number of elements.
func fewest(sets []int) int {
	best := sets[0]
	for _, s := range sets {
		if len(buttonsOf(s)) < len(buttonsOf(best)) {
			best = s
		}
	}
	return best
}

// boards gives all sets of lights of a small graph, and a few of a big one, some of which can be solved.
func (tr truth) boards(d *dice) []int {
	sets := someLights(tr.model, d)
	for _, presses := range someLights(tr.model, d) {
		sets = append(sets, tr.effects[presses])
	}
	slices.Sort(sets)
	return slices.Compact(sets)
}

// isTrueBasis follows the document's own words.
func isTrueBasis(list []int) bool {
	for k, s := range list {
		if s <= 0 || k > 0 && top(list[k-1]) >= top(s) {
			return false
		}
		for j, other := range list {
			if j != k && slices.Contains(buttonsOf(other), top(s)) {
				return false
			}
		}
	}
	return true
}

// allSums returns the sums of all choices of sets, in any order.
func allSums(list []int) []int {
	if len(list) == 0 {
		return []int{0}
	}
	less := allSums(list[1:])
	for _, s := range slices.Clone(less) {
		less = append(less, s^list[0])
	}
	return less
}

func wantList(t *testing.T, what string, list []int, ok bool, want []int) {
	t.Helper()
	if !ok || !slices.Equal(list, want) {
		t.Errorf("%s: %v %v, want %v true", what, list, ok, want)
	}
}

func wantNoList(t *testing.T, what string, list []int, ok bool) {
	t.Helper()
	if ok || len(list) > 0 {
		t.Errorf("%s: %v %v, want no list", what, list, ok)
	}
}

func wantAnswer(t *testing.T, what string, answer, ok, want bool) {
	t.Helper()
	if !ok || answer != want {
		t.Errorf("%s: %v %v, want %v true", what, answer, ok, want)
	}
}

func wantNoAnswer(t *testing.T, what string, answer, ok bool) {
	t.Helper()
	if ok || answer {
		t.Errorf("%s: %v %v, want false false", what, answer, ok)
	}
}
