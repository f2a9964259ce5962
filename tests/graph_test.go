package tests

import (
	"fmt"
	"math"
	"slices"
	"strings"
	"testing"

	"loop.example/g01146/impl"
)

// Promise 1, first half: graphs are told by edges.

func TestMaxButtons(t *testing.T) {
	if impl.MaxButtons != 16 {
		t.Error(impl.MaxButtons)
	}
}

func TestIsGraph(t *testing.T) {
	for _, m := range someModels() {
		if !impl.IsGraph(m.graph()) {
			t.Errorf("%s is a graph", m.text())
		}
	}
	for _, g := range badGraphs() {
		if impl.IsGraph(g) {
			t.Errorf("%v is no graph", g)
		}
	}
}

func TestIsGraphIgnoresSpareCapacity(t *testing.T) {
	near := []int{2, 1, 0, 9}
	if !impl.IsGraph(impl.Graph{Near: near[:2]}) {
		t.Error("what is behind the length counts")
	}
	if impl.IsGraph(impl.Graph{Near: near[:1]}) {
		t.Error("a neighbour behind the length counts")
	}
}

func TestGraphOf(t *testing.T) {
	d := &dice{state: 2}
	for _, m := range someModels() {
		edges := m.edges()
		g, ok := impl.GraphOf(m.n, edges, m.own)
		wantModel(t, "edges of "+m.text(), g, ok, m)
		var mixed [][]int
		for _, e := range edges {
			mixed = append(mixed, []int{e[1], e[0]})
		}
		for len(edges) > 0 && len(mixed) < 200 {
			mixed = append(mixed, edges[d.below(len(edges))])
		}
		g, ok = impl.GraphOf(m.n, mixed, m.own)
		wantModel(t, "mixed edges of "+m.text(), g, ok, m)
	}
}

func TestGraphOfOneButton(t *testing.T) {
	g, ok := impl.GraphOf(1, nil, true)
	wantModel(t, "one button", g, ok, modelOf(1, true))
	g, ok = impl.GraphOf(1, [][]int{}, false)
	wantModel(t, "one button", g, ok, modelOf(1, false))
	g, ok = impl.GraphOf(1, [][]int{{0, 0}}, true)
	wantNoGraph(t, "one button, 0-0", g, ok)
	g, ok = impl.GraphOf(1, [][]int{{0, 1}}, true)
	wantNoGraph(t, "one button, 0-1", g, ok)
}

func TestGraphOfEdgeAgain(t *testing.T) {
	for _, edges := range [][][]int{{{0, 1}, {0, 1}}, {{0, 1}, {1, 0}}, {{1, 0}}, {{1, 0}, {1, 0}, {0, 1}, {0, 1}}} {
		g, ok := impl.GraphOf(3, edges, false)
		wantModel(t, fmt.Sprint(edges), g, ok, modelOf(3, false, [2]int{0, 1}))
	}
}

func TestGraphOfEdgeLimit(t *testing.T) {
	var edges [][]int
	for k := range 201 {
		edges = append(edges, []int{k % 15, 15})
	}
	star := modelOf(16, true)
	for i := range 15 {
		star.join(i, 15)
	}
	for _, many := range []int{199, 200} {
		g, ok := impl.GraphOf(16, edges[:many], true)
		wantModel(t, fmt.Sprint(many, " edges"), g, ok, star)
	}
	g, ok := impl.GraphOf(16, edges, true)
	wantNoGraph(t, "201 edges", g, ok)
	g, ok = impl.GraphOf(16, append(edges, edges...), true)
	wantNoGraph(t, "402 edges", g, ok)
}

func TestGraphOfInvalid(t *testing.T) {
	for _, n := range []int{0, -1, 17, 18, 64, 65, math.MaxInt, math.MinInt} {
		for _, edges := range [][][]int{nil, {{0, 1}}} {
			g, ok := impl.GraphOf(n, edges, true)
			wantNoGraph(t, fmt.Sprint(n, " buttons"), g, ok)
		}
	}
	for _, n := range []int{2, 3, 16} {
		bad := [][]int{nil, {}, {0}, {0, 1, 1}, {0, 1, 0}, {0, 0}, {n - 1, n - 1}}
		for _, x := range notBelow(n) {
			bad = append(bad, []int{0, x}, []int{x, 0}, []int{x, x})
		}
		for _, e := range bad {
			for _, edges := range [][][]int{{e}, {{0, 1}, e}, {e, {0, 1}}, {{1, 0}, e, {0, 1}}} {
				g, ok := impl.GraphOf(n, edges, true)
				wantNoGraph(t, fmt.Sprint(n, edges), g, ok)
			}
		}
	}
}

func TestEdgesOf(t *testing.T) {
	for _, m := range someModels() {
		edges, ok := impl.EdgesOf(m.graph())
		if !ok || !slices.EqualFunc(edges, m.edges(), slices.Equal) {
			t.Errorf("%s: %v %v", m.text(), edges, ok)
		}
	}
	for _, g := range badGraphs() {
		if edges, ok := impl.EdgesOf(g); ok || len(edges) > 0 {
			t.Errorf("%v: %v %v", g, edges, ok)
		}
	}
}

func TestGraphsComeBack(t *testing.T) {
	for _, m := range append(allModels(5), bigModels()...) {
		g := m.graph()
		edges, _ := impl.EdgesOf(g)
		h, ok := impl.GraphOf(m.n, edges, m.own)
		wantModel(t, "edges of "+m.text(), h, ok, m)
		text, _ := impl.GraphText(g)
		h, ok = impl.ParseGraph(text)
		wantModel(t, "text of "+m.text(), h, ok, m)
	}
}

func TestGraphText(t *testing.T) {
	for _, m := range append(allModels(5), bigModels()...) {
		if text, ok := impl.GraphText(m.graph()); !ok || text != m.text() {
			t.Errorf("%s: %q %v", m.text(), text, ok)
		}
	}
	for _, g := range badGraphs() {
		if text, ok := impl.GraphText(g); ok || text != "" {
			t.Errorf("%v: %q %v", g, text, ok)
		}
	}
}

func TestGraphTextExamples(t *testing.T) {
	for text, m := range map[string]model{
		"3+:0-1,1-2":      modelOf(3, true, [2]int{0, 1}, [2]int{1, 2}),
		"3:0-1,1-2":       modelOf(3, false, [2]int{0, 1}, [2]int{1, 2}),
		"1:-":             modelOf(1, false),
		"1+:-":            modelOf(1, true),
		"16+:-":           modelOf(16, true),
		"12:2-3,2-10,3-4": modelOf(12, false, [2]int{3, 4}, [2]int{2, 10}, [2]int{2, 3}),
		"16:9-10,10-15":   modelOf(16, false, [2]int{10, 15}, [2]int{9, 10}),
	} {
		if s, ok := impl.GraphText(m.graph()); !ok || s != text {
			t.Errorf("%q %v, want %q", s, ok, text)
		}
		g, ok := impl.ParseGraph(text)
		wantModel(t, text, g, ok, m)
	}
}

func TestParseGraphInvalid(t *testing.T) {
	for _, s := range []string{
		"", ":", "-", "+", "+:", ":-", "+:-", "3", "3+", "3:", "3+:", "3-", "3+-", "3::-", "3:-:", "3:-:-", "3:--", "3:-,", "3:,-", "3:-,-", "3:-,0-1", "3:0-1,-",
		"0:-", "0+:-", "17:-", "17+:-", "160:-", "-1:-", "-3:-", "03:-", "+3:-", "3++:-", "3+ :-", " 3:-", "3 :-", "3: -", "3:- ", "3:-\n", "\n3:-", "3:-\x00",
		"03:0-1", "3:00-1", "3:0-01", "3:+0-1", "3:0-+1", "3:-0-1", "3:0--1", "3:0-1-2", "3:0-1-", "3:0-", "3:-1", "3:0", "3:0,1", "3:01", "3:0-1,", "3:,0-1", "3:0-1,,1-2", "3:0-1;1-2", "3:0-1, 1-2", "3:0-1 ,1-2",
		"3:1-0", "3:0-0", "3:2-2", "3:0-3", "3:3-0", "3:0-1,0-1", "3:0-1,1-0", "3:1-2,0-1", "3:0-2,0-1", "3:0-1,1-2,", "3:0-1,1-2,0-2", "12:2-10,2-3", "12:2-10,10-3", "16:0-16", "16:15-16",
		"3:0_1", "1_0:-", "0x3:-", "3.0:-", "3e0:-", "3\xff:-", "\xff", "３:-", "3:０-1", "99999999999999999999:-", "9223372036854775808:-", "18446744073709551619:-", "3:0-18446744073709551617", "3:18446744073709551616-1",
		"3+:0-1,1-2\n", "3+:0-1,1-2 ", "graph 3+:0-1,1-2", "3-:0-1", "+3+:0-1", "3:+", "3:+-", "3:0-1+", "nil", "3:[0 1]",
		strings.Repeat("3", 5000) + ":-", "3:" + strings.Repeat("0-1,", 5000) + "0-1", "3:" + strings.Repeat("0-1,", 199) + "1-2", "3:" + strings.Repeat(",", 5000), strings.Repeat(":", 5000),
	} {
		g, ok := impl.ParseGraph(s)
		wantNoGraph(t, fmt.Sprintf("%.60q", s), g, ok)
	}
}

// TestParseGraphAllShort parses all texts of up to 6 bytes that stand in texts of graphs.
func TestParseGraphAllShort(t *testing.T) {
	texts := map[string]model{}
	for n := 1; n <= 16; n++ {
		for _, own := range []bool{false, true} {
			texts[modelOf(n, own).text()] = modelOf(n, own)
			for i := range n {
				for j := range i {
					m := modelOf(n, own, [2]int{i, j})
					texts[m.text()] = m
				}
			}
		}
	}
	words := []string{""}
	for range 6 {
		var longer []string
		for _, w := range words {
			for _, letter := range []string{"0", "1", "2", "+", ":", "-", ","} {
				longer = append(longer, w+letter)
			}
		}
		for _, w := range longer {
			g, ok := impl.ParseGraph(w)
			if m, known := texts[w]; known {
				wantModel(t, w, g, ok, m)
			} else {
				wantNoGraph(t, w, g, ok)
			}
		}
		words = longer
	}
}

// eachChange gives the texts in which one byte of a text is changed, put in or left out.
func eachChange(text string, do func(changed string)) {
	for k := range len(text) + 1 {
		for b := range 256 {
			do(text[:k] + string([]byte{byte(b)}) + text[k:])
			if k < len(text) {
				do(text[:k] + string([]byte{byte(b)}) + text[k+1:])
			}
		}
		if k < len(text) {
			do(text[:k] + text[k+1:])
		}
	}
}

func TestParseGraphChanged(t *testing.T) {
	for _, text := range []string{"3+:0-1,1-2", "4:0-1,0-3,1-2,2-3", "12:2-3,2-10,3-4", "16+:-"} {
		eachChange(text, func(s string) { checkText(t, s) })
	}
}

// checkText requires that a text either is that of its graph or has none.
func checkText(t *testing.T, s string) {
	t.Helper()
	g, ok := impl.ParseGraph(s)
	if !ok {
		wantNoGraph(t, s, g, ok)
		return
	}
	m := modelOf(len(g.Near), g.Own)
	for i, near := range g.Near {
		for _, j := range buttonsOf(near) {
			m.join(i, j)
		}
	}
	if m.text() != s {
		t.Errorf("%q is parsed as %q", s, m.text())
	}
}

func TestWithOwn(t *testing.T) {
	for _, m := range someModels() {
		for _, own := range []bool{false, true} {
			g, ok := impl.WithOwn(m.graph(), own)
			want := m
			want.own = own
			wantModel(t, m.text(), g, ok, want)
		}
	}
	for _, bad := range badGraphs() {
		g, ok := impl.WithOwn(bad, true)
		wantNoGraph(t, fmt.Sprint(bad), g, ok)
	}
}

func TestRenameGraph(t *testing.T) {
	path := modelOf(3, true, [2]int{0, 1}, [2]int{1, 2})
	g, ok := impl.RenameGraph(path.graph(), []int{1, 2, 0})
	wantModel(t, "path with other names", g, ok, modelOf(3, true, [2]int{1, 2}, [2]int{0, 2}))
	g, ok = impl.RenameGraph(modelOf(1, false).graph(), []int{0})
	wantModel(t, "one button", g, ok, modelOf(1, false))
	d := &dice{state: 3}
	for _, m := range someModels() {
		inOrder := make([]int, m.n)
		for i := range inOrder {
			inOrder[i] = i
		}
		g, ok := impl.RenameGraph(m.graph(), inOrder)
		wantModel(t, "same names", g, ok, m)
		names := d.shuffled(inOrder)
		want := modelOf(m.n, m.own)
		for _, e := range m.edges() {
			want.join(names[e[0]], names[e[1]])
		}
		g, ok = impl.RenameGraph(m.graph(), names)
		wantModel(t, fmt.Sprint(m.text(), names), g, ok, want)
	}
}

func TestRenameGraphInvalid(t *testing.T) {
	for _, m := range []model{modelOf(3, true, [2]int{0, 1}), modelOf(3, true)} {
		names := [][]int{nil, {}, {0}, {0, 1}, {0, 1, 2, 3}, {0, 1, 2, 0}, {0, 0, 0}, {0, 1, 1}, {0, 1, 0}, {2, 1, 2}, {1, 1, 2}, {1, 2, 3}}
		for _, x := range notBelow(3) {
			names = append(names, []int{x, 1, 2}, []int{0, x, 2}, []int{0, 1, x})
		}
		for _, list := range names {
			g, ok := impl.RenameGraph(m.graph(), list)
			wantNoGraph(t, fmt.Sprint(list), g, ok)
		}
	}
	g, ok := impl.RenameGraph(modelOf(1, true).graph(), []int{1})
	wantNoGraph(t, "one button called 1", g, ok)
	for _, bad := range badGraphs() {
		for n := range 18 {
			names := make([]int, n)
			for i := range names {
				names[i] = i
			}
			g, ok := impl.RenameGraph(bad, names)
			wantNoGraph(t, fmt.Sprint(bad), g, ok)
		}
	}
}

func TestJoinGraphs(t *testing.T) {
	g, ok := impl.JoinGraphs(modelOf(2, true, [2]int{0, 1}).graph(), modelOf(3, true, [2]int{0, 2}).graph())
	wantModel(t, "2 and 3", g, ok, modelOf(5, true, [2]int{0, 1}, [2]int{2, 4}))
	models := append(allModels(3), bigModels()...)
	for _, a := range models {
		for _, b := range models {
			g, ok := impl.JoinGraphs(a.graph(), b.graph())
			if a.own != b.own || a.n+b.n > 16 {
				wantNoGraph(t, a.text()+" and "+b.text(), g, ok)
				continue
			}
			want := a
			want.n += b.n
			for _, e := range b.edges() {
				want.join(a.n+e[0], a.n+e[1])
			}
			wantModel(t, a.text()+" and "+b.text(), g, ok, want)
		}
	}
}

func TestJoinGraphsInvalid(t *testing.T) {
	for _, bad := range badGraphs() {
		good := modelOf(1, bad.Own).graph()
		g, ok := impl.JoinGraphs(good, bad)
		wantNoGraph(t, fmt.Sprint("good and ", bad), g, ok)
		g, ok = impl.JoinGraphs(bad, good)
		wantNoGraph(t, fmt.Sprint(bad, " and good"), g, ok)
		g, ok = impl.JoinGraphs(bad, bad)
		wantNoGraph(t, fmt.Sprint(bad, " twice"), g, ok)
	}
}

func TestDegreesOf(t *testing.T) {
	for _, m := range someModels() {
		want := make([]int, m.n)
		for _, e := range m.edges() {
			want[e[0]]++
			want[e[1]]++
		}
		if degrees, ok := impl.DegreesOf(m.graph()); !ok || !slices.Equal(degrees, want) {
			t.Errorf("%s: %v %v", m.text(), degrees, ok)
		}
	}
	for _, g := range badGraphs() {
		if degrees, ok := impl.DegreesOf(g); ok || len(degrees) > 0 {
			t.Errorf("%v: %v %v", g, degrees, ok)
		}
	}
}
