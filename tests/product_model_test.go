package tests

import (
	"math"
	"math/big"
	"slices"
	"sync"
	"testing"
)

// relation tells a map by a table, whether the number j is in what it takes the number i to: an account of chapter 8 that counts how often each number comes, and looks through all sets.
type relation struct {
	n   int
	has [16][16]bool
}

func relationOf(list []int) relation {
	r := relation{n: len(list)}
	for i, set := range list {
		for _, j := range buttonsOf(set) {
			r.has[i][j] = true
		}
	}
	return r
}

func identityOf(n int) relation {
	r := relation{n: n}
	for i := range n {
		r.has[i][i] = true
	}
	return r
}

func (r relation) list() []int {
	list := []int{}
	for i := range r.n {
		set := 0
		for j := range r.n {
			if r.has[i][j] {
				set += power(j)
			}
		}
		list = append(list, set)
	}
	return list
}

// apply counts for each number how often it comes.
func (r relation) apply(s int) int {
	times := filled(r.n, 0)
	for _, i := range buttonsOf(s) {
		for j := range r.n {
			if r.has[i][j] {
				times[j]++
			}
		}
	}
	set := 0
	for j, k := range times {
		set += k % 2 * power(j)
	}
	return set
}

func (r relation) after(first relation) relation {
	both := relation{n: r.n}
	for i, set := range first.list() {
		for _, j := range buttonsOf(r.apply(set)) {
			both.has[i][j] = true
		}
	}
	return both
}

func (r relation) plus(other relation) relation {
	for i := range r.n {
		for j := range r.n {
			r.has[i][j] = r.has[i][j] != other.has[i][j]
		}
	}
	return r
}

// powers returns those from 0 to 40.
func (r relation) powers() []relation {
	list := []relation{identityOf(r.n)}
	for k := range 40 {
		list = append(list, r.after(list[k]))
	}
	return list
}

// polyMap adds those of some powers that a polynomial has.
func polyMap(powers []relation, p int) relation {
	sum := relation{n: powers[0].n}
	for _, k := range buttonsOf(p) {
		sum = sum.plus(powers[k])
	}
	return sum
}

// taken counts the sets that a map takes to 0.
func (r relation) taken() int {
	images := []int{0}
	for _, single := range r.list() {
		for _, set := range slices.Clone(images) {
			images = append(images, set^single)
		}
	}
	count := 0
	for _, set := range images {
		if set == 0 {
			count++
		}
	}
	return count
}

// companion takes each number to the next one, and the last one so that the polynomial, whose degree is the number of sets, takes all to 0 and no lesser one does.
func companion(p int) []int {
	n := degreeOf(p)
	var list []int
	for i := 1; i < n; i++ {
		list = append(list, power(i))
	}
	return append(list, p-power(n))
}

// beside has the sets of one map and, behind them, those of another one.
func beside(a, b []int) []int {
	list := slices.Clone(a)
	for _, set := range b {
		list = append(list, set*power(len(a)))
	}
	return list
}

// allMaps gives all maps of n sets.
func allMaps(n int) [][]int {
	lists := [][]int{{}}
	for range n {
		var longer [][]int
		for _, list := range lists {
			for set := range power(n) {
				longer = append(longer, append(slices.Clone(list), set))
			}
		}
		lists = longer
	}
	return lists
}

// bigMaps gives maps of 4..16 sets: that take all to 0, all to themselves, each number to the next one or round, that have few different sets, or any.
func bigMaps(d *dice) [][]int {
	var all [][]int
	for n := 4; n <= 16; n++ {
		same := identityOf(n).list()
		all = append(all, filled(n, 0), same, filled(n, power(n)-1), filled(n, 1), companion(power(n)), companion(power(n)+1), companion(power(n+1)-1), d.shuffled(same))
		for _, different := range []int{1, 2, n / 2, n} {
			choice := d.word(power(n), different)
			var list []int
			for range n {
				list = append(list, choice[d.below(different)])
			}
			all = append(all, list, d.word(power(n), n))
		}
		half := d.polyOf(n / 2)
		all = append(all, companion(d.polyOf(n)), beside(companion(half), companion(half)), beside(companion(half), filled(n-n/2, 0)), someModel(n, 2, d).withOwn(n%2 == 0).toggleMap())
	}
	return all
}

// someMaps has all maps of up to 2 sets, some of 3, and big ones.
var someMaps = sync.OnceValue(func() [][]int {
	maps := append(allMaps(1), allMaps(2)...)
	for k, m := range allMaps(3) {
		if k%7 == 0 {
			maps = append(maps, m)
		}
	}
	return append(maps, bigMaps(&dice{state: 101})...)
})

func (m model) toggleMap() []int {
	var list []int
	for i := range m.n {
		list = append(list, m.press(0, i))
	}
	return list
}

// badMaps gives lists that are no maps, each for one reason.
func badMaps() [][]int {
	return [][]int{
		nil, {}, filled(17, 0), filled(17, 1), filled(64, 0), filled(65, 1), filled(300, 0),
		{2}, {3}, {-1}, {-2}, {math.MinInt}, {math.MaxInt}, {power(62)}, {power(32)}, {power(32) + 1},
		{4, 0}, {0, 4}, {5, 1}, {3, -1}, {-4, 3}, {0, math.MinInt}, {7, 7, 8}, {8, 7, 7}, {7, -8, 7},
		append(filled(15, 0), power(16)), append([]int{power(16)}, filled(15, 0)...), append(filled(15, 65535), -1),
	}
}

// times has the buttons k i + j, where k is the number of those of the second graph.
func (m model) times(h model) model {
	p := modelOf(m.n*h.n, m.own)
	for a := range p.n {
		for b := range p.n {
			i, j, other, next := a/h.n, a%h.n, b/h.n, b%h.n
			if i == other && h.near[j][next] || j == next && m.near[i][other] {
				p.join(a, b)
			}
		}
	}
	return p
}

// lineNet tells what each button of the product of a path or a circle and a graph of n buttons toggles, for any size.
func lineNet(length int, closed bool, n int, toggles func(i, j int) bool) [][]int {
	var net [][]int
	for a := range length {
		for i := range n {
			var toggled []int
			for j := range n {
				if toggles(i, j) {
					toggled = append(toggled, a*n+j)
				}
			}
			for b := range length {
				if nextTo(a, b, length, closed) {
					toggled = append(toggled, b*n+i)
				}
			}
			net = append(net, toggled)
		}
	}
	return net
}

// gridNet does so for grids and tori.
func gridNet(rows, columns int, own, closed bool) [][]int {
	return lineNet(rows, closed, columns, func(i, j int) bool { return nextTo(i, j, columns, closed) || own && i == j })
}

// netNullity returns the nullity of what toggles so.
func netNullity(net [][]int) int {
	pivots := make([]*big.Int, len(net))
	nullity := 0
	for _, toggled := range net {
		s := new(big.Int)
		for _, j := range toggled {
			s.SetBit(s, j, 1)
		}
		for s.Sign() != 0 && pivots[s.BitLen()-1] != nil {
			s.Xor(s, pivots[s.BitLen()-1])
		}
		if s.Sign() == 0 {
			nullity++
		} else {
			pivots[s.BitLen()-1] = s
		}
	}
	return nullity
}

// chasedNullities returns the nullities of grids of 1, 2, .., 40 rows: which sums of first rows leave nothing.
func chasedNullities(columns int, own bool) []int {
	before, rows := filled(columns, 0), filled(columns, 0)
	for i := range columns {
		rows[i] = power(i)
	}
	var nullities []int
	for range 40 {
		for i, row := range rows {
			next := (row*2 ^ row/2) % power(columns)
			if own {
				next ^= row
			}
			before[i], rows[i] = row, next^before[i]
		}
		var net [][]int
		for _, row := range rows {
			net = append(net, buttonsOf(row))
		}
		nullities = append(nullities, netNullity(net))
	}
	return nullities
}

// TestProductModel holds the account itself against examples that are seen at once.
func TestProductModel(t *testing.T) {
	turn, drop := relationOf([]int{2, 1}), relationOf([]int{0, 1})
	if turn.apply(1) != 2 || turn.apply(3) != 3 || drop.apply(2) != 1 || drop.apply(1) != 0 || turn.taken() != 1 || drop.taken() != 2 {
		t.Error("sets", turn.apply(1), turn.apply(3), drop.apply(2), drop.apply(1), turn.taken(), drop.taken())
	}
	if !slices.Equal(turn.after(drop).list(), []int{0, 2}) || !slices.Equal(drop.after(turn).list(), []int{1, 0}) || !slices.Equal(turn.plus(drop).list(), []int{2, 0}) {
		t.Error("maps", turn.after(drop).list(), drop.after(turn).list(), turn.plus(drop).list())
	}
	if !slices.Equal(polyMap(turn.powers(), 5).list(), []int{0, 0}) || !slices.Equal(polyMap(turn.powers(), 3).list(), []int{3, 3}) {
		t.Error("polynomials", polyMap(turn.powers(), 5).list(), polyMap(turn.powers(), 3).list())
	}
	if !slices.Equal(companion(11), []int{2, 4, 3}) || !slices.Equal(companion(3), []int{1}) || !slices.Equal(beside([]int{3, 1}, []int{1}), []int{3, 1, 4}) {
		t.Error("companions", companion(11), companion(3), beside([]int{3, 1}, []int{1}))
	}
	if netNullity(gridNet(4, 4, true, false)) != 4 || netNullity(gridNet(3, 3, true, false)) != 0 || chasedNullities(5, true)[4] != 2 {
		t.Error("nullities", netNullity(gridNet(4, 4, true, false)), netNullity(gridNet(3, 3, true, false)), chasedNullities(5, true)[4])
	}
}
