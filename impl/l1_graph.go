package impl

import (
	"math/bits"
	"strconv"
	"strings"
)

const MaxButtons = 16

const (
	maxEdgeList = 200
	maxWord     = 200
)

type Graph struct {
	Near []int
	Own  bool
}

// IsGraph reports whether g is a graph.
func IsGraph(g Graph) bool {
	if !isCount(len(g.Near)) {
		return false
	}
	for i, near := range g.Near {
		if !isSet(g, near) || has(near, i) {
			return false
		}
	}
	return isMutual(g.Near)
}

func isMutual(near []int) bool {
	for i := range near {
		for j := range i {
			if has(near[i], j) != has(near[j], i) {
				return false
			}
		}
	}
	return true
}

func isCount(n int) bool { return n >= 1 && n <= MaxButtons }

func isSet(g Graph, set int) bool { return isSetOf(len(g.Near), set) }

// isSetOf needs no look at the sign: a negative number is never shifted to 0.
func isSetOf(n int, set int) bool { return set>>n == 0 }

func isButton(g Graph, i int) bool { return i >= 0 && i < len(g.Near) }

func has(set int, i int) bool { return set>>i&1 == 1 }

// GraphOf returns the graph of n buttons with exactly the given edges, each two different buttons, at most 200 of them; an edge that comes again counts once.
func GraphOf(n int, edges [][]int, own bool) (Graph, bool) {
	if !isCount(n) || len(edges) > maxEdgeList {
		return Graph{}, false
	}
	g := Graph{Near: make([]int, n), Own: own}
	for _, e := range edges {
		if !isEdge(g, e) {
			return Graph{}, false
		}
		link(g.Near, e[0], e[1])
	}
	return g, true
}

func isEdge(g Graph, e []int) bool {
	return len(e) == 2 && isButton(g, e[0]) && isButton(g, e[1]) && e[0] != e[1]
}

// link sets bits and never toggles them, so that an edge that comes again counts once.
func link(near []int, i int, j int) {
	near[i] |= 1 << j
	near[j] |= 1 << i
}

// EdgesOf returns all edges, i, j with i < j, in lexicographic order.
func EdgesOf(g Graph) ([][]int, bool) {
	if !IsGraph(g) {
		return nil, false
	}
	var edges [][]int
	for i, near := range g.Near {
		for j := i + 1; j < len(g.Near); j++ {
			if has(near, j) {
				edges = append(edges, []int{i, j})
			}
		}
	}
	return edges, true
}

// TogglesOf returns the set of lights that a button toggles.
func TogglesOf(g Graph, i int) (int, bool) {
	if !IsGraph(g) || !isButton(g, i) {
		return 0, false
	}
	return toggles(g, i), true
}

func toggles(g Graph, i int) int {
	if g.Own {
		return g.Near[i] | 1<<i
	}
	return g.Near[i]
}

// board keeps its lights in an array, so that presses change nothing but the board itself.
type board struct {
	graph  Graph
	lights [MaxButtons]bool
}

func boardWith(g Graph, lights int) board {
	b := board{graph: g}
	for i := range g.Near {
		b.lights[i] = has(lights, i)
	}
	return b
}

func (b *board) press(i int) {
	toggled := toggles(b.graph, i)
	for j := range b.graph.Near {
		if has(toggled, j) {
			b.lights[j] = !b.lights[j]
		}
	}
}

func (b *board) lit() int {
	set := 0
	for i, on := range b.lights {
		if on {
			set |= 1 << i
		}
	}
	return set
}

func eachIn(set int, do func(i int)) {
	for ; set != 0; set &= set - 1 {
		do(bits.TrailingZeros(uint(set)))
	}
}

// PressButton returns the lights that are on behind pressing a button.
func PressButton(g Graph, lights int, i int) (int, bool) {
	return PressWord(g, lights, []int{i})
}

// PressAll returns the lights that are on behind pressing each button of a set once.
func PressAll(g Graph, lights int, presses int) (int, bool) {
	if !IsGraph(g) || !isSet(g, lights) || !isSet(g, presses) {
		return 0, false
	}
	b := boardWith(g, lights)
	eachIn(presses, b.press)
	return b.lit(), true
}

// PressWord returns the lights that are on behind pressing the buttons of a word of at most 200 of them, in order.
func PressWord(g Graph, lights int, word []int) (int, bool) {
	if !IsGraph(g) || !isSet(g, lights) || !isWord(g, word) {
		return 0, false
	}
	b := boardWith(g, lights)
	for _, i := range word {
		b.press(i)
	}
	return b.lit(), true
}

func isWord(g Graph, word []int) bool {
	if len(word) > maxWord {
		return false
	}
	for _, i := range word {
		if !isButton(g, i) {
			return false
		}
	}
	return true
}

// EffectOf returns the lights that are on behind pressing each button of a set once, if all are off at first.
func EffectOf(g Graph, presses int) (int, bool) {
	return PressAll(g, 0, presses)
}

// PathGraph returns the graph whose edges are all i, i + 1.
func PathGraph(n int, own bool) (Graph, bool) {
	return GridGraph(1, n, own)
}

// CircleGraph returns the same with the edge 0, n - 1, n at least 3.
func CircleGraph(n int, own bool) (Graph, bool) {
	g, ok := PathGraph(n, own)
	if !ok || n < 3 {
		return Graph{}, false
	}
	link(g.Near, 0, n-1)
	return g, true
}

// GridGraph returns the graph of rows times columns buttons, each 1 or more, in which columns r + c stands for the place in the row r and the column c, and edges are next to each other in a row or a column.
func GridGraph(rows int, columns int, own bool) (Graph, bool) {
	if !isGrid(rows, columns) {
		return Graph{}, false
	}
	near := make([]int, rows*columns)
	for place := range near {
		if place%columns != columns-1 {
			link(near, place, place+1)
		}
		if place+columns < len(near) {
			link(near, place, place+columns)
		}
	}
	return Graph{Near: near, Own: own}, true
}

// isGrid bounds both numbers before it multiplies them, as a great product would wrap around.
func isGrid(rows int, columns int) bool {
	return isCount(rows) && isCount(columns) && isCount(rows*columns)
}

// TorusGraph returns the same, with both at least 3, in which the last row is next to the first one, too, and the last column next to the first one.
func TorusGraph(rows int, columns int, own bool) (Graph, bool) {
	g, ok := GridGraph(rows, columns, own)
	if !ok || rows < 3 || columns < 3 {
		return Graph{}, false
	}
	for r := range rows {
		link(g.Near, r*columns, r*columns+columns-1)
	}
	for c := range columns {
		link(g.Near, c, (rows-1)*columns+c)
	}
	return g, true
}

// FullGraph returns the graph of n buttons with all edges.
func FullGraph(n int, own bool) (Graph, bool) {
	if !isCount(n) {
		return Graph{}, false
	}
	near := make([]int, n)
	for i := range near {
		near[i] = (1<<n - 1) &^ (1 << i)
	}
	return Graph{Near: near, Own: own}, true
}

// WithOwn returns the graph with another Own.
func WithOwn(g Graph, own bool) (Graph, bool) {
	if !IsGraph(g) {
		return Graph{}, false
	}
	near := make([]int, len(g.Near))
	copy(near, g.Near)
	return Graph{Near: near, Own: own}, true
}

// RenameGraph returns the graph in which the button i is called names[i]; names has each button once.
func RenameGraph(g Graph, names []int) (Graph, bool) {
	if !IsGraph(g) || !isRenaming(g, names) {
		return Graph{}, false
	}
	near := make([]int, len(g.Near))
	for i, neighbours := range g.Near {
		eachIn(neighbours, func(j int) { link(near, names[i], names[j]) })
	}
	return Graph{Near: near, Own: g.Own}, true
}

func isRenaming(g Graph, names []int) bool {
	if len(names) != len(g.Near) {
		return false
	}
	seen := 0
	for _, name := range names {
		if !isButton(g, name) || has(seen, name) {
			return false
		}
		seen |= 1 << name
	}
	return true
}

// JoinGraphs returns the graph of the buttons of g, and of h with the number of those of g added; Own of both has to be the same. It fails if there are too many.
func JoinGraphs(g Graph, h Graph) (Graph, bool) {
	if !IsGraph(g) || !IsGraph(h) || g.Own != h.Own {
		return Graph{}, false
	}
	n := len(g.Near)
	if n+len(h.Near) > MaxButtons {
		return Graph{}, false
	}
	near := make([]int, n+len(h.Near))
	copy(near, g.Near)
	for i, neighbours := range h.Near {
		near[n+i] = neighbours << n
	}
	return Graph{Near: near, Own: g.Own}, true
}

// DegreesOf returns the number of neighbours of each button.
func DegreesOf(g Graph) ([]int, bool) {
	if !IsGraph(g) {
		return nil, false
	}
	degrees := make([]int, len(g.Near))
	for i, near := range g.Near {
		degrees[i] = bits.OnesCount(uint(near))
	}
	return degrees, true
}

// GraphText returns the number of buttons, a + if Own is true, a :, and all edges, i-j, with , between them, or - alone for none.
func GraphText(g Graph) (string, bool) {
	edges, ok := EdgesOf(g)
	if !ok {
		return "", false
	}
	head := strconv.Itoa(len(g.Near))
	if g.Own {
		head += "+"
	}
	if len(edges) == 0 {
		return head + ":-", true
	}
	words := make([]string, len(edges))
	for k, e := range edges {
		words[k] = strconv.Itoa(e[0]) + "-" + strconv.Itoa(e[1])
	}
	return head + ":" + strings.Join(words, ","), true
}

// ParseGraph returns the graph with a GraphText. It fails if there is none.
func ParseGraph(s string) (Graph, bool) {
	g, ok := readGraph(s)
	if !ok {
		return Graph{}, false
	}
	// Only the text that the graph itself has counts: this refuses signs, superfluous zeros and edges in another order.
	if text, ok := GraphText(g); !ok || text != s {
		return Graph{}, false
	}
	return g, true
}

func readGraph(s string) (Graph, bool) {
	head, tail, _ := strings.Cut(s, ":")
	head, own := strings.CutSuffix(head, "+")
	n, err := strconv.Atoi(head)
	if err != nil {
		return Graph{}, false
	}
	edges, ok := readEdges(tail)
	if !ok {
		return Graph{}, false
	}
	return GraphOf(n, edges, own)
}

func readEdges(s string) ([][]int, bool) {
	if s == "-" {
		return nil, true
	}
	var edges [][]int
	for _, word := range strings.Split(s, ",") {
		left, right, _ := strings.Cut(word, "-")
		i, wrong := strconv.Atoi(left)
		j, bad := strconv.Atoi(right)
		if wrong != nil || bad != nil {
			return nil, false
		}
		edges = append(edges, []int{i, j})
	}
	return edges, true
}
