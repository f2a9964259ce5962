package tests

import (
	"fmt"
	"math"
	"slices"
	"strings"
	"testing"

	"loop.example/g01146/impl"
)

// Promise 7, first half: lists of colours, what presses make of them, and their texts.

func TestColourExamples(t *testing.T) {
	g := modelOf(2, true, [2]int{0, 1}).graph()
	for _, presses := range [][]int{{1, 0}, {0, 1}} {
		list, ok := impl.EffectColours(g, 3, presses)
		wantList(t, fmt.Sprint("effect of ", presses), list, ok, []int{1, 1})
	}
	list, ok := impl.EffectColours(g, 3, []int{1, 2})
	wantList(t, "effect of 1 2", list, ok, []int{0, 0})
	list, ok = impl.SolveColours(g, 3, []int{1, 1})
	wantList(t, "presses for 1 1", list, ok, []int{0, 2})
	list, ok = impl.SolveColours(g, 3, []int{1, 0})
	wantNoList(t, "presses for 1 0", list, ok)
	list, ok = impl.WitnessColours(g, 3, []int{1, 0})
	wantList(t, "witness of 1 0", list, ok, []int{1, 2})
}

func TestMaxColoured(t *testing.T) {
	if impl.MaxColoured != 10 {
		t.Error(impl.MaxColoured)
	}
}

// TestIsColours has lists with any numbers, of any length: those that are none are told so.
func TestIsColours(t *testing.T) {
	d := &dice{state: 72}
	for _, c := range tints() {
		lists := append(c.someTints(d), nil, []int{}, filled(c.n-1, 0), filled(c.n+1, 0), filled(11, 0), filled(300, 0))
		for _, x := range append(notBelow(c.m), c.m-1, 0) {
			list := d.tint(c.n, c.m)
			list[d.below(c.n)] = x
			lists = append(lists, list)
		}
		for _, list := range lists {
			answer, ok := impl.IsColours(c.graph(), c.m, list)
			wantAnswer(t, fmt.Sprint(c.text(), " ", c.m, " ", list), answer, ok, c.isList(list))
		}
	}
}

func TestIsColoursExamples(t *testing.T) {
	for _, x := range []struct {
		text string
		m    int
		list []int
		want bool
	}{
		{"1:-", 2, []int{1}, true}, {"1:-", 2, []int{2}, false}, {"1+:-", 7, []int{6}, true}, {"1+:-", 7, []int{7}, false}, {"1:-", 5, []int{-1}, false}, {"1:-", 3, nil, false},
		{"3+:0-1,1-2", 3, []int{0, 1, 2}, true}, {"3+:0-1,1-2", 2, []int{0, 1, 2}, false}, {"3:-", 5, []int{4, 4, 4}, true}, {"3:-", 5, []int{4, 4, 5}, false}, {"3:-", 5, []int{5, 4, 4}, false},
		{"3:-", 7, []int{0, 0}, false}, {"3:-", 7, []int{0, 0, 0, 0}, false}, {"3:-", 7, []int{0, math.MinInt, 0}, false}, {"10:0-9", 7, filled(10, 6), true}, {"10:0-9", 7, filled(11, 6), false}, {"10:0-9", 7, filled(9, 6), false},
	} {
		g, _ := impl.ParseGraph(x.text)
		answer, ok := impl.IsColours(g, x.m, x.list)
		wantAnswer(t, fmt.Sprint(x), answer, ok, x.want)
	}
}

func TestEffectColours(t *testing.T) {
	d := &dice{state: 73}
	for _, c := range tints() {
		for _, presses := range c.someTints(d) {
			list, ok := impl.EffectColours(c.graph(), c.m, presses)
			wantList(t, fmt.Sprint(c.text(), " ", c.m, " ", presses), list, ok, c.effect(presses))
		}
	}
}

// TestPressColours presses words in order, in another one, and in two parts.
func TestPressColours(t *testing.T) {
	d := &dice{state: 74}
	for _, c := range tints() {
		for _, length := range []int{0, 1, 2, c.m, 20, 200} {
			g, lights, word := c.graph(), d.tint(c.n, c.m), d.word(c.n, length)
			what, want := fmt.Sprint(c.text(), " ", c.m, " ", lights, word), c.behind(lights, c.tally(word))
			list, ok := impl.PressColours(g, c.m, lights, word)
			wantList(t, what, list, ok, want)
			list, ok = impl.PressColours(g, c.m, lights, d.shuffled(word))
			wantList(t, what+" shuffled", list, ok, want)
			half, _ := impl.PressColours(g, c.m, lights, word[:length/2])
			list, ok = impl.PressColours(g, c.m, half, word[length/2:])
			wantList(t, what+" in two parts", list, ok, want)
		}
	}
}

// TestPressesAreEffects presses each button as often as a list tells.
func TestPressesAreEffects(t *testing.T) {
	d := &dice{state: 75}
	for _, c := range tints() {
		presses, word := d.tint(c.n, c.m), []int{}
		for i, times := range presses {
			word = append(word, filled(times, i)...)
		}
		want, ok := impl.EffectColours(c.graph(), c.m, presses)
		list, fine := impl.PressColours(c.graph(), c.m, filled(c.n, 0), d.shuffled(word))
		wantList(t, fmt.Sprint(c.text(), " ", c.m, " ", presses), list, ok && fine, want)
	}
}

func TestPressColoursExamples(t *testing.T) {
	for _, x := range []struct {
		text               string
		m                  int
		lights, word, want []int
	}{
		{"1+:-", 7, []int{6}, []int{0}, []int{0}}, {"1:-", 7, []int{6}, []int{0}, []int{6}}, {"1+:-", 5, []int{1}, nil, []int{1}}, {"1+:-", 5, []int{1}, filled(200, 0), []int{1}}, {"1+:-", 7, []int{1}, filled(200, 0), []int{5}},
		{"3+:0-1,1-2", 3, []int{2, 1, 0}, []int{1}, []int{0, 2, 1}}, {"3:0-1,1-2", 3, []int{2, 1, 0}, []int{1}, []int{0, 1, 1}}, {"3:0-1,1-2", 5, []int{4, 4, 4}, []int{0, 2, 1, 1}, []int{1, 1, 1}},
	} {
		g, _ := impl.ParseGraph(x.text)
		list, ok := impl.PressColours(g, x.m, x.lights, x.word)
		wantList(t, fmt.Sprint(x), list, ok, x.want)
	}
}

// period presses a word until each light has been toggled as often as a multiple of m.
func (c tinted) period(word []int) int {
	once, colours, times := c.effect(c.tally(word)), filled(c.n, 0), 0
	for {
		times++
		for j := range colours {
			colours[j] = (colours[j] + once[j]) % c.m
		}
		if isAll(colours, 0) {
			return times
		}
	}
}

func TestPeriodOf(t *testing.T) {
	d := &dice{state: 76}
	for _, c := range tints() {
		quiet, _ := impl.QuietColours(c.graph(), c.m)
		words := [][]int{nil, {0}, {c.n - 1}, filled(c.m, 0), filled(200, c.n-1), d.word(c.n, 2), d.word(c.n, 3), d.word(c.n, 200), append(filled(c.m, 0), d.word(c.n, 1)...)}
		for _, presses := range quiet {
			var word []int
			for i, times := range presses {
				word = append(word, filled(times, i)...)
			}
			words = append(words, word, append(word, 0))
		}
		for _, word := range words {
			x, ok := impl.PeriodOf(c.graph(), c.m, word)
			wantNumber(t, fmt.Sprint(c.text(), " ", c.m, " ", word), x, ok, c.period(word))
		}
	}
}

func TestPeriodOfExamples(t *testing.T) {
	for _, x := range []struct {
		text string
		m    int
		word []int
		want int
	}{
		{"1:-", 7, []int{0}, 1}, {"1+:-", 7, []int{0}, 7}, {"1+:-", 7, nil, 1}, {"1+:-", 2, []int{0, 0}, 1}, {"1+:-", 3, []int{0, 0}, 3}, {"1+:-", 5, filled(5, 0), 1}, {"1+:-", 5, filled(6, 0), 5},
		{"2+:0-1", 3, []int{0, 1, 1}, 1}, {"2+:0-1", 3, []int{0, 1}, 3}, {"2:0-1", 2, []int{0, 1, 0, 1}, 1}, {"3:0-1,1-2", 2, []int{0, 2}, 1}, {"3:0-1,1-2", 5, []int{0, 2}, 5}, {"10:0-9", 7, []int{1, 2, 3}, 1}, {"10:0-9", 7, []int{9}, 7},
	} {
		g, _ := impl.ParseGraph(x.text)
		period, ok := impl.PeriodOf(g, x.m, x.word)
		wantNumber(t, fmt.Sprint(x), period, ok, x.want)
	}
}

// digitsOf writes a list by its numbers' own texts.
func digitsOf(list []int) string {
	var text strings.Builder
	for _, x := range list {
		fmt.Fprint(&text, x)
	}
	return text.String()
}

// TestColoursText has all lists of up to 3 digits, and lists of dice of up to 10: numbers up to 9 are allowed, whatever m is.
func TestColoursText(t *testing.T) {
	lists := slices.Concat(allTints(1, 10), allTints(2, 10), allTints(3, 10), [][]int{filled(10, 0), filled(10, 9), {0, 1, 2, 3, 4, 5, 6, 7, 8, 9}, {9, 8, 7, 6, 5, 4, 3, 2, 1, 0}})
	d := &dice{state: 77}
	for range 2000 {
		lists = append(lists, d.word(10, 1+d.below(10)))
	}
	for _, list := range lists {
		text, ok := impl.ColoursText(list)
		wantText(t, fmt.Sprint(list), text, ok, digitsOf(list))
		again, ok := impl.ParseColours(text)
		wantList(t, text, again, ok, list)
	}
}

func TestColoursTextInvalid(t *testing.T) {
	lists := [][]int{nil, {}, filled(11, 0), filled(12, 1), filled(300, 9)}
	for _, x := range append(notBelow(10), 48, 57, 256, 208, 265, -247, power(32)+1, power(8)+9) {
		lists = append(lists, []int{x}, []int{0, x}, []int{x, 9}, append(filled(9, 1), x), append([]int{x}, filled(9, 1)...))
	}
	for _, list := range lists {
		text, ok := impl.ColoursText(list)
		wantNoText(t, fmt.Sprint(list), text, ok)
	}
}

// checkColours requires that a text either is that of its list or has none.
func checkColours(t *testing.T, s string) {
	t.Helper()
	var want []int
	for k := range len(s) {
		want = append(want, int(s[k])-int('0'))
	}
	isText := len(s) >= 1 && len(s) <= 10 && !slices.ContainsFunc(want, func(x int) bool { return x < 0 || x > 9 })
	list, ok := impl.ParseColours(s)
	if isText {
		wantList(t, fmt.Sprintf("%q", s), list, ok, want)
	} else {
		wantNoList(t, fmt.Sprintf("%q", s), list, ok)
	}
}

// TestParseColours has all texts of up to 2 bytes, and texts in which one byte is changed, put in or left out.
func TestParseColours(t *testing.T) {
	checkColours(t, "")
	for a := range 256 {
		checkColours(t, string([]byte{byte(a)}))
		for b := range 256 {
			checkColours(t, string([]byte{byte(a), byte(b)}))
		}
	}
	for _, text := range []string{"0", "120", "999999999", "0123456789", "0000000000"} {
		eachChange(text, func(s string) { checkColours(t, s) })
	}
}

func TestParseColoursInvalid(t *testing.T) {
	for _, s := range []string{"", " ", "-", "+1", "-1", "1 ", " 1", "1,2", "1\n", "0x1", "1_0", "1.0", "a", "12a", "/", ":", "00000000000", "12345678901", "99999999999999999999", "\x00", "\xff", "１", "٣", "²"} {
		list, ok := impl.ParseColours(s)
		wantNoList(t, fmt.Sprintf("%q", s), list, ok)
	}
}

func TestColoursOfInvalidGraphs(t *testing.T) {
	d := &dice{state: 78}
	for _, g := range badGraphs() {
		for _, m := range primes() {
			wantNoColours(t, fmt.Sprint(g, " ", m), g, m, filled(len(g.Near), 0))
		}
	}
	// These are graphs, but with more buttons than the chapter has.
	for n := 11; n <= 16; n++ {
		for _, of := range []model{modelOf(n, false), modelOf(n, true), fullModel(n, true), starModel(n, 0, false), someModel(n, 3, d)} {
			for _, m := range primes() {
				wantNoColours(t, fmt.Sprint(of.text(), " ", m), of.graph(), m, filled(n, 0))
				wantNoColours(t, fmt.Sprint(of.text(), " ", m), of.graph(), m, filled(10, 0))
			}
		}
	}
}

func TestColoursOfInvalidNumbers(t *testing.T) {
	for _, of := range []model{modelOf(1, true), modelOf(1, false), modelOf(3, true, [2]int{0, 1}), fullModel(10, false)} {
		for _, m := range noPrimes() {
			for _, x := range []int{0, 1, m - 1} {
				wantNoColours(t, fmt.Sprint(of.text(), " ", m), of.graph(), m, filled(of.n, x))
			}
		}
	}
}

// TestColoursOfTenButtons meets the limit: all calls that have a result at all succeed.
func TestColoursOfTenButtons(t *testing.T) {
	for _, m := range primes() {
		for name, call := range colourCalls() {
			if list, ok := call(modelOf(10, true).graph(), m, filled(10, m-1)); name != "WitnessColours" && !ok {
				t.Errorf("%s %d: %v %v", name, m, list, ok)
			}
		}
		list, ok := impl.WitnessColours(modelOf(10, false).graph(), m, filled(10, m-1))
		wantList(t, "witness of ten buttons", list, ok, append([]int{1}, filled(9, 0)...))
	}
}

func TestColoursOfInvalidLists(t *testing.T) {
	for _, of := range []model{modelOf(1, true), modelOf(1, false), modelOf(2, true, [2]int{0, 1}), modelOf(3, false, [2]int{0, 1}), fullModel(10, true), modelOf(10, false)} {
		for _, m := range primes() {
			lists := [][]int{nil, {}, filled(of.n-1, 0), filled(of.n+1, 0), filled(of.n+64, 0), filled(200, 1)}
			for _, x := range notBelow(m) {
				for _, place := range []int{0, of.n - 1} {
					list := filled(of.n, 0)
					list[place] = x
					lists = append(lists, list)
				}
			}
			for _, list := range lists {
				for _, name := range listCalls() {
					result, ok := colourCalls()[name](of.graph(), m, list)
					wantNoList(t, fmt.Sprint(name, " ", of.text(), " ", m, " ", list), result, ok)
				}
			}
		}
	}
}

func TestColoursOfInvalidWords(t *testing.T) {
	for _, of := range []model{modelOf(1, true), modelOf(3, false, [2]int{0, 1}), fullModel(10, true)} {
		for _, m := range primes() {
			words := [][]int{filled(201, 0), filled(201, of.n-1), filled(1000, 0)}
			for _, i := range notBelow(of.n) {
				words = append(words, []int{i}, append(filled(199, 0), i), append([]int{i}, filled(10, 0)...))
			}
			for _, word := range words {
				what := fmt.Sprint(of.text(), " ", m, " ", word)
				list, ok := impl.PressColours(of.graph(), m, filled(of.n, 0), word)
				wantNoList(t, what, list, ok)
				x, ok := impl.PeriodOf(of.graph(), m, word)
				wantNoNumber(t, what, x, ok)
			}
			list, ok := impl.PressColours(of.graph(), m, filled(of.n, 0), filled(200, 0))
			wantList(t, "a word of 200", list, ok, tinted{model: of, m: m}.effect(append([]int{200}, filled(of.n-1, 0)...)))
		}
	}
}
