package tests

import (
	"fmt"
	"maps"
	"math"
	"reflect"
	"slices"
	"strings"
	"testing"

	"loop.example/g01146/impl"
)

// Promise 11: every function accepts all arguments without panicking and modifies none of them.

// landed has the functions of the chapters that have landed.
func landed() map[string]any {
	return map[string]any{
		"IsGraph": impl.IsGraph, "GraphOf": impl.GraphOf, "EdgesOf": impl.EdgesOf, "TogglesOf": impl.TogglesOf,
		"PressButton": impl.PressButton, "PressAll": impl.PressAll, "PressWord": impl.PressWord, "EffectOf": impl.EffectOf,
		"PathGraph": impl.PathGraph, "CircleGraph": impl.CircleGraph, "GridGraph": impl.GridGraph, "TorusGraph": impl.TorusGraph,
		"FullGraph": impl.FullGraph, "WithOwn": impl.WithOwn, "RenameGraph": impl.RenameGraph, "JoinGraphs": impl.JoinGraphs,
		"DegreesOf": impl.DegreesOf, "GraphText": impl.GraphText, "ParseGraph": impl.ParseGraph,
		"RankOf": impl.RankOf, "NullityOf": impl.NullityOf, "QuietBasis": impl.QuietBasis, "IsQuiet": impl.IsQuiet,
		"QuietPatterns": impl.QuietPatterns, "ImageBasis": impl.ImageBasis, "CanSolve": impl.CanSolve, "SolveBoard": impl.SolveBoard,
		"WitnessOf": impl.WitnessOf, "CountSolutions": impl.CountSolutions, "LeastSolution": impl.LeastSolution, "AllOn": impl.AllOn,
		"CountSolvable": impl.CountSolvable, "FarthestBoard": impl.FarthestBoard, "SolutionsBySize": impl.SolutionsBySize, "ReducedSet": impl.ReducedSet,
		"ChasePresses": impl.ChasePresses, "ChaseLeft": impl.ChaseLeft, "FirstRowMap": impl.FirstRowMap, "FirstRows": impl.FirstRows,
		"SolveByChase": impl.SolveByChase, "LastRowTable": impl.LastRowTable, "RowBehind": impl.RowBehind, "RowPeriod": impl.RowPeriod,
		"QuietRows": impl.QuietRows, "NullityByRows": impl.NullityByRows, "NullitiesByRows": impl.NullitiesByRows, "RowToggles": impl.RowToggles,
		"DegreeOf": impl.DegreeOf, "TimesPoly": impl.TimesPoly, "DividePoly": impl.DividePoly, "GcdPoly": impl.GcdPoly,
		"PowerModulo": impl.PowerModulo, "ShiftPoly": impl.ShiftPoly, "ReversedPoly": impl.ReversedPoly, "DerivativeOf": impl.DerivativeOf,
		"IsIrreducible": impl.IsIrreducible, "FactorsOf": impl.FactorsOf, "OrderOfPoly": impl.OrderOfPoly, "FibonacciPoly": impl.FibonacciPoly,
		"FirstFibonacci": impl.FirstFibonacci, "PolyText": impl.PolyText, "ParsePoly": impl.ParsePoly,
		"DegreesWithin": impl.DegreesWithin, "IsEvenSet": impl.IsEvenSet, "IsOddSet": impl.IsOddSet, "EvenSplit": impl.EvenSplit, "EvenOddSplit": impl.EvenOddSplit,
		"CountEvenSplits": impl.CountEvenSplits, "CountEvenOdd": impl.CountEvenOdd, "EvenSplits": impl.EvenSplits, "OddDominating": impl.OddDominating,
		"CountOddDominating": impl.CountOddDominating, "PartsOf": impl.PartsOf, "CutOf": impl.CutOf, "IsEvenEdges": impl.IsEvenEdges,
		"CountEvenCuts": impl.CountEvenCuts, "CountEvenEdges": impl.CountEvenEdges,
		"IsForest": impl.IsForest, "ParentsOf": impl.ParentsOf, "FromParents": impl.FromParents, "StarGraph": impl.StarGraph, "BinaryTree": impl.BinaryTree,
		"LeavesOf": impl.LeavesOf, "CountByStates": impl.CountByStates, "LeastByStates": impl.LeastByStates, "NullityByStates": impl.NullityByStates,
		"MatchingOf": impl.MatchingOf, "MatchingSize": impl.MatchingSize, "PathNullity": impl.PathNullity, "CircleNullity": impl.CircleNullity, "SolvePath": impl.SolvePath,
		"IsColours": impl.IsColours, "EffectColours": impl.EffectColours, "PressColours": impl.PressColours, "RankColours": impl.RankColours, "NullityColours": impl.NullityColours,
		"QuietColours": impl.QuietColours, "SolveColours": impl.SolveColours, "WitnessColours": impl.WitnessColours, "CountColourSolutions": impl.CountColourSolutions,
		"DeterminantColours": impl.DeterminantColours, "AllAtOnce": impl.AllAtOnce, "PeriodOf": impl.PeriodOf, "ColoursText": impl.ColoursText, "ParseColours": impl.ParseColours,
		"ProductGraph": impl.ProductGraph, "ToggleMap": impl.ToggleMap, "ApplyMap": impl.ApplyMap, "ComposeMaps": impl.ComposeMaps, "AddMaps": impl.AddMaps, "MapOfPoly": impl.MapOfPoly,
		"NullityOfMap": impl.NullityOfMap, "MinimalPoly": impl.MinimalPoly, "PathProduct": impl.PathProduct, "CircleProduct": impl.CircleProduct,
		"GridNullity": impl.GridNullity, "GridTable": impl.GridTable, "TorusNullity": impl.TorusNullity,
		"LitPress": impl.LitPress, "LitWord": impl.LitWord, "LitMoves": impl.LitMoves, "ReachOf": impl.ReachOf, "FewestLit": impl.FewestLit, "WayTo": impl.WayTo,
		"CountOrbits": impl.CountOrbits, "OrbitSizes": impl.OrbitSizes, "LeastLights": impl.LeastLights, "FormOf": impl.FormOf, "ReflectSet": impl.ReflectSet,
		"ReflectWord": impl.ReflectWord, "ReflectOrbit": impl.ReflectOrbit, "FormSpread": impl.FormSpread, "FormOfLights": impl.FormOfLights,
	}
}

func goodGraphs() []impl.Graph {
	return []impl.Graph{
		modelOf(1, false).graph(), modelOf(1, true).graph(), modelOf(2, true, [2]int{0, 1}).graph(), modelOf(3, false).graph(),
		modelOf(3, true, [2]int{0, 1}, [2]int{1, 2}).graph(), modelOf(16, false, [2]int{0, 15}).graph(), fullModel(16, true).graph(),
		starModel(16, 7, true).graph(), gridModel(1, 5, true, true).graph(), fullModel(10, true).graph(), modelOf(11, false).graph(),
		gridModel(3, 3, true, false).graph(),
	}
}

// choices gives values of each type that a function takes, valid and invalid ones.
func choices() map[reflect.Type][]reflect.Value {
	all := map[reflect.Type][]reflect.Value{}
	add := func(x any) {
		v := reflect.ValueOf(x)
		all[v.Type()] = append(all[v.Type()], v)
	}
	for _, g := range append(goodGraphs(), badGraphs()...) {
		add(g)
	}
	for _, x := range []int{0, 1, 2, 3, 5, 7, 15, 16, 17, 63, 64, 65, 200, 65535, 65536, power(62), -1, -2, -16, -64, math.MaxInt, math.MinInt} {
		add(x)
	}
	for _, list := range [][]int{nil, {}, {0}, {1}, {-1}, {0, 1}, {1, 0}, {2, 0, 1}, {0, 1, 2}, {0, 0, 0}, {0, 1, 2, 3}, {16}, {64}, {math.MaxInt}, {math.MinInt, 0}, filled(200, 0), filled(201, 0),
		{15, 14, 13, 12, 11, 10, 9, 8, 7, 6, 5, 4, 3, 2, 1, 0}, {1, 2, 4}, {3, 5}, {3, 65533}, {65535}, {65536}, {2, 1}, {3, 7}, {-1, 0, 1}, {-1, -1, 0}, {-1, 1}, filled(16, -1), filled(17, -1), filled(10, 1), filled(11, 0), {3, 3}, {2, 4, 1}, {8, 1, 2, 4}, filled(16, 65535), filled(16, 65536)} {
		add(list)
	}
	for _, lists := range [][][]int{nil, {}, {nil}, {{}}, {{0}}, {{0, 1}}, {{1, 0}, {0, 1}}, {{0, 1}, {1, 2}}, {{0, 2}, {1, 2}, {0, 1}}, {{0, 15}}, {{0, 1}, nil}, {{0, 0}}, {{0, 1, 2}}, {{-1, 0}}, {{0, 16}}, {{0, 64}},
		{{math.MinInt, math.MaxInt}}, slices.Repeat([][]int{{0, 1}}, 200), slices.Repeat([][]int{{0, 1}}, 201)} {
		add(lists)
	}
	for _, s := range []string{"", ":", "3+:0-1,1-2", "1:-", "16:0-15", "17:-", "3:0-3", "3:1-0", "-", "+", "3", "3:", "\x00", "\xff:\xff-\xff", "99999999999999999999:-", strings.Repeat("9", 3000), strings.Repeat("1:0-1,", 900),
		"0", "1", "x", "x2+x+1", "x40", "x41", "x-1", "x1", "+x", "x+", "x99999999999999999999", strings.Repeat("x2+", 900) + "1", "120", "0123456789", "01234567890", "12a"} {
		add(s)
	}
	add(false)
	add(true)
	return all
}

// fresh copies a value with all that it holds; each slice gets a spare capacity that holds valid values.
func fresh(v reflect.Value, spare int) reflect.Value {
	switch v.Kind() {
	case reflect.Slice:
		n := v.Len()
		list := reflect.MakeSlice(v.Type(), n+spare, n+spare)
		for k := range n {
			list.Index(k).Set(fresh(v.Index(k), spare))
		}
		for k := range spare {
			list.Index(n + k).Set(filler(v.Type().Elem(), k))
		}
		return list.Slice(0, n)
	case reflect.Struct:
		s := reflect.New(v.Type()).Elem()
		for k := range v.NumField() {
			s.Field(k).Set(fresh(v.Field(k), spare))
		}
		return s
	}
	return v
}

func filler(t reflect.Type, k int) reflect.Value {
	if t.Kind() == reflect.Slice {
		return reflect.ValueOf([]int{k, k + 1})
	}
	return reflect.ValueOf(k)
}

// picture tells a value as a text, with the spare capacities if whole is true.
func picture(v reflect.Value, whole bool) string {
	var b strings.Builder
	switch v.Kind() {
	case reflect.Slice:
		if whole {
			fmt.Fprint(&b, v.Len(), " of ")
			v = v.Slice(0, v.Cap())
		}
		for k := range v.Len() {
			b.WriteString(picture(v.Index(k), whole) + " ")
		}
		return "[" + b.String() + "]"
	case reflect.Struct:
		for k := range v.NumField() {
			b.WriteString(picture(v.Field(k), whole) + " ")
		}
		return "{" + b.String() + "}"
	}
	return fmt.Sprintf("%.80q", fmt.Sprint(v.Interface()))
}

func pictures(list []reflect.Value, whole bool) string {
	var b strings.Builder
	for _, v := range list {
		b.WriteString(picture(v, whole) + "; ")
	}
	return b.String()
}

// span is a stretch of memory.
type span struct{ from, to uintptr }

func spansOf(v reflect.Value) []span {
	var spans []span
	switch v.Kind() {
	case reflect.Slice:
		if v.Cap() > 0 {
			spans = append(spans, span{v.Pointer(), v.Pointer() + uintptr(v.Cap())*v.Type().Elem().Size()})
		}
		for k := range v.Len() {
			spans = append(spans, spansOf(v.Index(k))...)
		}
	case reflect.Struct:
		for k := range v.NumField() {
			spans = append(spans, spansOf(v.Field(k))...)
		}
	}
	return spans
}

func isApart(spans []span) bool {
	slices.SortFunc(spans, func(a, b span) int { return int(a.from) - int(b.from) })
	for k := 1; k < len(spans); k++ {
		if spans[k].from < spans[k-1].to {
			return false
		}
	}
	return true
}

// scribble writes over all that a result holds, to its capacity.
func scribble(v reflect.Value) {
	switch v.Kind() {
	case reflect.Slice:
		v = v.Slice(0, v.Cap())
		for k := range v.Len() {
			scribble(v.Index(k))
		}
	case reflect.Struct:
		for k := range v.NumField() {
			if v.Field(k).Kind() == reflect.Slice {
				scribble(v.Field(k))
			}
		}
	case reflect.Int:
		v.SetInt(-77)
	}
}

func isNothing(v reflect.Value) bool {
	switch v.Kind() {
	case reflect.Slice:
		return v.Len() == 0
	case reflect.Struct:
		for k := range v.NumField() {
			if !isNothing(v.Field(k)) {
				return false
			}
		}
		return true
	}
	return v.IsZero()
}

// scribbleAll leaves single numbers alone: they are copies.
func scribbleAll(results []reflect.Value) {
	for _, v := range results {
		if v.Kind() == reflect.Slice || v.Kind() == reflect.Struct {
			scribble(v)
		}
	}
}

func copies(arguments []reflect.Value, spare int) []reflect.Value {
	var list []reflect.Value
	for _, v := range arguments {
		list = append(list, fresh(v, spare))
	}
	return list
}

func checkCall(t *testing.T, name string, f reflect.Value, arguments []reflect.Value) {
	defer func() {
		if p := recover(); p != nil {
			t.Errorf("%s panics at %.200s: %v", name, pictures(arguments, false), p)
		}
	}()
	complain := func(what string) { t.Errorf("%s %s: %.200s", name, what, pictures(arguments, false)) }
	given := copies(arguments, 3)
	before := pictures(given, true)
	results := f.Call(given)
	first := pictures(results, false)
	if pictures(given, true) != before {
		complain("modifies an argument")
	}
	last := results[len(results)-1]
	if last.Kind() == reflect.Bool && !last.Bool() {
		for _, v := range results {
			if !isNothing(v) {
				complain("fails with a result")
			}
		}
	}
	var spans []span
	for _, v := range append(slices.Clone(given), results...) {
		spans = append(spans, spansOf(v)...)
	}
	if !isApart(spans) {
		complain("shares memory")
	}
	scribbleAll(results)
	if pictures(given, true) != before {
		complain("hands out an argument's memory")
	}
	if pictures(f.Call(given), false) != first {
		complain("has another result the second time")
	}
	if pictures(f.Call(copies(arguments, 0)), false) != first {
		complain("depends on a spare capacity")
	}
}

// manyNumbers gives numbers at the limits of the chapters, more than functions with many arguments have time for.
func manyNumbers() []reflect.Value {
	list := []reflect.Value{}
	for k := range 63 {
		for _, x := range []int{power(k), power(k) - 1, power(k) + 1, -power(k)} {
			list = append(list, reflect.ValueOf(x))
		}
	}
	for _, x := range []int{0, 6, 10, 11, 12, 19, 20, 21, 39, 40, 41, 42, 43, 199, 200, 201, 999999, 1000000, 1000001, math.MaxInt, math.MinInt, math.MinInt + 1} {
		list = append(list, reflect.ValueOf(x))
	}
	return list
}

// fewer leaves out most values that are no graphs, and the numbers between small and extreme ones, for functions that take so many lists beside a graph that there is no time for all of them.
func fewer(few map[reflect.Type][]reflect.Value) map[reflect.Type][]reflect.Value {
	left := maps.Clone(few)
	number, graph := reflect.TypeFor[int](), reflect.TypeFor[impl.Graph]()
	left[number] = slices.DeleteFunc(slices.Clone(few[number]), func(v reflect.Value) bool {
		x := v.Int()
		return (x > 17 || x < -17) && x != math.MaxInt && x != math.MinInt
	})
	good := len(goodGraphs())
	left[graph] = slices.Clone(few[graph][:good])
	for k := good; k < len(few[graph]); k += 9 {
		left[graph] = append(left[graph], few[graph][k])
	}
	return left
}

func TestEachFunctionIsTotal(t *testing.T) {
	few := choices()
	many := maps.Clone(few)
	many[reflect.TypeFor[int]()] = manyNumbers()
	for name, function := range landed() {
		f := reflect.ValueOf(function)
		t.Run(name, func(t *testing.T) {
			t.Parallel()
			all := few
			if f.Type().NumIn() > 3 && f.Type().In(0) == reflect.TypeFor[impl.Graph]() {
				all = fewer(few)
			}
			checkAllCalls(t, name, f, all)
			if f.Type().NumIn() <= 2 {
				checkAllCalls(t, name, f, many)
			}
		})
	}
}

func checkAllCalls(t *testing.T, name string, f reflect.Value, all map[reflect.Type][]reflect.Value) {
	var try func(arguments []reflect.Value)
	try = func(arguments []reflect.Value) {
		if len(arguments) == f.Type().NumIn() {
			checkCall(t, name, f, arguments)
			return
		}
		for _, v := range all[f.Type().In(len(arguments))] {
			try(append(slices.Clone(arguments), v))
		}
	}
	try(nil)
}

func TestHugeArguments(t *testing.T) {
	huge := filled(1000000, 0)
	g := modelOf(3, true).graph()
	x, ok := impl.PressWord(g, 1, huge)
	wantNoNumber(t, "a word of a million buttons", x, ok)
	h, ok := impl.RenameGraph(g, huge)
	wantNoGraph(t, "a million names", h, ok)
	h, ok = impl.GraphOf(3, slices.Repeat([][]int{{0, 1}}, 1000000), true)
	wantNoGraph(t, "a million edges", h, ok)
	answer, ok := impl.IsEvenEdges(g, slices.Repeat([][]int{{0, 1}}, 1000000))
	wantNoAnswer(t, "a million edges", answer, ok)
	for name, call := range splitCalls() {
		list, ok := call(impl.Graph{Near: huge})
		wantNoList(t, name+" of a million buttons", list, ok)
	}
	wantNoSet(t, "a million buttons", impl.Graph{Near: huge}, 0)
	answer, ok = impl.IsForest(impl.Graph{Near: huge})
	wantNoAnswer(t, "a million buttons", answer, ok)
	wantNoForest(t, "a million buttons", impl.Graph{Near: huge}, 0)
	h, ok = impl.FromParents(filled(1000000, -1), true)
	wantNoGraph(t, "a million parents", h, ok)
	wantNoColours(t, "a million buttons", impl.Graph{Near: huge}, 3, huge)
	answer, ok = impl.IsColours(g, 3, huge)
	wantAnswer(t, "a million colours", answer, ok, false)
	for _, name := range listCalls() {
		list, ok := colourCalls()[name](g, 3, huge)
		wantNoList(t, name+" of a million colours", list, ok)
	}
	list, ok := impl.PressColours(g, 3, filled(3, 0), huge)
	wantNoList(t, "a word of a million buttons", list, ok)
	x, ok = impl.PeriodOf(g, 3, huge)
	wantNoNumber(t, "a word of a million buttons", x, ok)
	text, ok := impl.ColoursText(huge)
	wantNoText(t, "a million colours", text, ok)
	list, ok = impl.ParseColours(strings.Repeat("0", 1000000))
	wantNoList(t, "a million digits", list, ok)
	wantNoMap(t, "a million sets", huge)
	list, ok = impl.ToggleMap(impl.Graph{Near: huge})
	wantNoList(t, "a million buttons", list, ok)
	wantNoLine(t, "a million buttons", impl.Graph{Near: huge}, 3)
	wantNoLitGraph(t, "a million buttons", impl.Graph{Near: huge})
	x, ok = impl.LitWord(g, 1, huge)
	wantNoNumber(t, "a word of a million lit buttons", x, ok)
	x, ok = impl.ReflectWord(g, 1, huge)
	wantNoNumber(t, "a word of a million buttons", x, ok)
	h, ok = impl.ProductGraph(impl.Graph{Near: huge}, impl.Graph{Near: huge})
	wantNoGraph(t, "a million buttons", h, ok)
	h, ok = impl.JoinGraphs(impl.Graph{Near: huge}, impl.Graph{Near: huge})
	wantNoGraph(t, "a million buttons", h, ok)
	x, ok = impl.ReducedSet(huge, 1)
	wantNoNumber(t, "a million sets", x, ok)
	wantRefused(t, "a million buttons", impl.Graph{Near: huge}, 0)
	for _, text := range []string{"0-1,", ",", "-", ":", "9", "+"} {
		h, ok = impl.ParseGraph("3:" + strings.Repeat(text, 1000000))
		wantNoGraph(t, "a million times "+text, h, ok)
		h, ok = impl.ParseGraph(strings.Repeat(text, 1000000))
		wantNoGraph(t, "a million times "+text+" alone", h, ok)
	}
	for _, text := range []string{"x2+", "+", "x", "0+", "1+", "2", "x1+"} {
		x, ok = impl.ParsePoly(strings.Repeat(text, 1000000))
		wantNoNumber(t, "a million times "+text, x, ok)
		x, ok = impl.ParsePoly(strings.Repeat(text, 1000000) + "1")
		wantNoNumber(t, "a million times "+text+" and 1", x, ok)
	}
}

// TestResultsAreNew keeps results while other calls are made.
func TestResultsAreNew(t *testing.T) {
	g, _ := impl.PathGraph(4, true)
	h, _ := impl.PathGraph(4, true)
	edges, _ := impl.EdgesOf(g)
	degrees, _ := impl.DegreesOf(g)
	g.Near[0] = 99
	if !slices.Equal(h.Near, []int{2, 5, 10, 4}) {
		t.Error("two results share memory:", h)
	}
	more, _ := impl.EdgesOf(h)
	more[0][0] = 99
	if !slices.EqualFunc(edges, [][]int{{0, 1}, {1, 2}, {2, 3}}, slices.Equal) || !slices.Equal(degrees, []int{1, 2, 2, 1}) {
		t.Error("a result changes:", edges, degrees)
	}
	quiet, _ := impl.QuietBasis(modelOf(2, false).graph())
	patterns, _ := impl.QuietPatterns(modelOf(2, false).graph())
	again, _ := impl.QuietBasis(modelOf(2, false).graph())
	again[0] = 99
	if !slices.Equal(quiet, []int{1, 2}) || !slices.Equal(patterns, []int{0, 1, 2, 3}) {
		t.Error("a result changes:", quiet, patterns)
	}
	rows, _ := impl.FirstRowMap(1, 3, true)
	table, _ := impl.LastRowTable(1, 2, true)
	again, _ = impl.FirstRowMap(1, 3, true)
	again[0] = 99
	again, _ = impl.LastRowTable(1, 2, true)
	again[0] = 99
	if !slices.Equal(rows, []int{3, 7, 6}) || !slices.Equal(table, []int{0, -1, -1, 1}) {
		t.Error("a result changes:", rows, table)
	}
	path, _ := impl.PathGraph(3, true)
	cut, _ := impl.CutOf(path, 2)
	more, _ = impl.CutOf(path, 2)
	more[0][0], more[1] = 99, nil
	splits, _ := impl.EvenSplits(path)
	again, _ = impl.EvenSplits(path)
	again[0] = 99
	parts, _ := impl.PartsOf(path)
	again, _ = impl.PartsOf(path)
	again[0] = 99
	if !slices.EqualFunc(cut, [][]int{{0, 1}, {1, 2}}, slices.Equal) || !slices.Equal(splits, []int{2, 5}) || !slices.Equal(parts, []int{7}) {
		t.Error("a result changes:", cut, splits, parts)
	}
	parents, _ := impl.ParentsOf(path)
	again, _ = impl.ParentsOf(path)
	again[0] = 99
	matching, _ := impl.MatchingOf(path)
	more, _ = impl.MatchingOf(path)
	more[0][0] = 99
	if !slices.Equal(parents, []int{-1, 0, 1}) || !slices.EqualFunc(matching, [][]int{{1, 2}}, slices.Equal) {
		t.Error("a result changes:", parents, matching)
	}
	colours, _ := impl.QuietColours(modelOf(2, false).graph(), 3)
	more, _ = impl.QuietColours(modelOf(2, false).graph(), 3)
	more[0][0], more[1] = 99, nil
	effect, _ := impl.EffectColours(path, 3, []int{1, 0, 0})
	again, _ = impl.EffectColours(path, 3, []int{1, 0, 0})
	again[0] = 99
	if !slices.EqualFunc(colours, [][]int{{1, 0}, {0, 1}}, slices.Equal) || !slices.Equal(effect, []int{1, 1, 0}) {
		t.Error("a result changes:", colours, effect)
	}
	toggled, _ := impl.ToggleMap(path)
	again, _ = impl.ToggleMap(path)
	again[0] = 99
	both, _ := impl.ComposeMaps(toggled, toggled)
	again, _ = impl.MapOfPoly(toggled, 2)
	again[0] = 99
	single, _ := impl.GridTable(3, true)
	again, _ = impl.GridTable(3, true)
	again[0] = 99
	if !slices.Equal(toggled, []int{3, 7, 6}) || !slices.Equal(both, []int{4, 2, 1}) || !slices.Equal(single, []int{0, 2, 0}) {
		t.Error("a result changes:", toggled, both, single)
	}
	reached, _ := impl.ReachOf(path, 1)
	again, _ = impl.ReachOf(path, 1)
	again[0] = 99
	way, _ := impl.WayTo(path, 1, 4)
	again, _ = impl.WayTo(path, 1, 4)
	again[0] = 99
	sizes, _ := impl.OrbitSizes(path)
	again, _ = impl.OrbitSizes(path)
	again[0] = 99
	if !slices.Equal(reached, []int{1, 3, 4, 6}) || !slices.Equal(way, []int{0, 1, 2}) || !slices.Equal(sizes, []int{1, 3, 4}) {
		t.Error("a result changes:", reached, way, sizes)
	}
	factors, _ := impl.FactorsOf(30)
	again, _ = impl.FactorsOf(30)
	again[0] = 99
	if !slices.Equal(factors, []int{2, 3, 3, 3}) {
		t.Error("a result changes:", factors)
	}
}
