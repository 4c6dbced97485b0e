package tests

import (
	"fmt"
	"maps"
	"math"
	"math/rand"
	"slices"
	"testing"

	"loop.example/graphviews/impl"
)

func wantView(t *testing.T, what string, got impl.View, ok bool, want impl.View) {
	t.Helper()
	if !ok || got.Measure != want.Measure || got.Source != want.Source || !slices.Equal(got.Values, want.Values) {
		t.Errorf("%s = %v, %v, want %v, true", what, got, ok, want)
	}
}

func wantNoView(t *testing.T, what string, got impl.View, ok bool) {
	t.Helper()
	if ok || got.Measure != 0 || got.Source != 0 || len(got.Values) != 0 {
		t.Errorf("%s = %v, %v, want the zero value, false", what, got, ok)
	}
}

// viewOf fails the test if there is no right view.
func viewOf(t *testing.T, g impl.Graph, m int, source int) impl.View {
	t.Helper()
	v, ok := impl.ViewOf(g, m, source)
	if !ok {
		t.Fatalf("%q has no view of the kind %d from %d", impl.FormatGraph(g), m, source)
	}
	return v
}

func startOf(k kindOfMeasures, nodes int, source int) impl.View {
	values := slices.Repeat([]int{k.none}, nodes)
	values[source] = k.empty
	return impl.View{Measure: k.m, Source: source, Values: values}
}

// row is the graph with all edges from a node to the next one, with the same weight.
func row(nodes int, weight int) impl.Graph {
	g := impl.Graph{Nodes: nodes}
	for node := 1; node < nodes; node++ {
		g.Edges = append(g.Edges, impl.Edge{From: node - 1, To: node, Weight: weight})
	}
	return g
}

// ring is a row with an edge from the last node to the first one.
func ring(nodes int, weight int) impl.Graph {
	g := row(nodes, weight)
	g.Edges = append(g.Edges, impl.Edge{From: nodes - 1, To: 0, Weight: weight})
	return g
}

func randomGraph(random *rand.Rand, nodes int, edges int, weight int) impl.Graph {
	all := firstEdges(nodes, nodes*nodes)
	weights := map[[2]int]int{}
	for _, place := range random.Perm(len(all))[:min(edges, len(all), impl.MaxEdges)] {
		weights[[2]int{all[place].From, all[place].To}] = 1 + random.Intn(weight)
	}
	return edgesOf(nodes, weights)
}

// measuresOfWalks are the measures of the allowed walks from source, for each node where they end. A walk that is not allowed is not prolonged.
func measuresOfWalks(t *testing.T, g impl.Graph, m int, source int, allowed func(nodes []int) bool) []map[int]bool {
	t.Helper()
	found := make([]map[int]bool, g.Nodes)
	for node := range found {
		found[node] = map[int]bool{}
	}
	var walk func(nodes []int, weights []int)
	walk = func(nodes []int, weights []int) {
		if !allowed(nodes) {
			return
		}
		v, ok := impl.PathMeasure(m, weights)
		if !ok {
			t.Fatalf("PathMeasure(%d, %v) = %d, %v", m, weights, v, ok)
		}
		node := nodes[len(nodes)-1]
		found[node][v] = true
		for _, e := range g.Edges {
			if e.From == node {
				walk(append(slices.Clone(nodes), e.To), append(slices.Clone(weights), e.Weight))
			}
		}
	}
	walk([]int{source}, nil)
	return found
}

func withEdgesUpTo(edges int) func(nodes []int) bool {
	return func(nodes []int) bool { return len(nodes) <= edges+1 }
}

func throughNoNodeTwice(nodes []int) bool {
	last := len(nodes) - 1
	return !slices.Contains(nodes[:last], nodes[last])
}

func (k kindOfMeasures) bestOf(values map[int]bool) int {
	if len(values) == 0 {
		return k.none
	}
	all := slices.Sorted(maps.Keys(values))
	if k.empty == 0 {
		return all[0]
	}
	return all[len(all)-1]
}

// bestByPaths tries all paths from source.
func (k kindOfMeasures) bestByPaths(t *testing.T, g impl.Graph, source int) []int {
	t.Helper()
	var values []int
	for _, found := range measuresOfWalks(t, g, k.m, source, throughNoNodeTwice) {
		values = append(values, k.bestOf(found))
	}
	return values
}

// TestViewExample has the edges of the example in ascending order, as the text of a graph has them.
func TestViewExample(t *testing.T) {
	g := graphOf(t, "3 0>1=5 0>2=9 1>2=7")
	got, ok := impl.ViewOf(g, impl.MeasureLength, 0)
	wantView(t, "the length", got, ok, impl.View{Measure: impl.MeasureLength, Values: []int{0, 5, 9}})
	got, ok = impl.ViewOf(g, impl.MeasureWidth, 0)
	wantView(t, "the width", got, ok, impl.View{Measure: impl.MeasureWidth, Values: []int{100000, 5, 9}})
}

func TestViewsOfEachKind(t *testing.T) {
	cases := []struct {
		text   string
		source int
		values [5][]int
		rounds [5]int
	}{
		{"3 0>1=5 0>2=9 1>2=7", 0, [5][]int{{0, 5, 9}, {100000, 5, 9}, {0, 5, 7}, {1, 1, 1}, {0, 1, 1}}, [5]int{1, 1, 2, 1, 1}},
		{"3 0>1=5 0>2=13 1>2=7", 0, [5][]int{{0, 5, 12}, {100000, 5, 13}, {0, 5, 7}, {1, 1, 1}, {0, 1, 1}}, [5]int{2, 1, 2, 1, 1}},
		{"3 0>1=5 1>2=7", 0, [5][]int{{0, 5, 12}, {100000, 5, 5}, {0, 5, 7}, {1, 1, 1}, {0, 1, 2}}, [5]int{2, 2, 2, 2, 2}},
		{"3 0>1=5 1>2=7", 1, [5][]int{{100000, 0, 7}, {0, 100000, 7}, {100000, 0, 7}, {0, 1, 1}, {100000, 0, 1}}, [5]int{1, 1, 1, 1, 1}},
		{"3 0>1=5 1>2=7", 2, [5][]int{{100000, 100000, 0}, {0, 0, 100000}, {100000, 100000, 0}, {0, 0, 1}, {100000, 100000, 0}}, [5]int{}},
		{"1", 0, [5][]int{{0}, {100000}, {0}, {1}, {0}}, [5]int{}},
		{"3", 1, [5][]int{{100000, 0, 100000}, {0, 100000, 0}, {100000, 0, 100000}, {0, 1, 0}, {100000, 0, 100000}}, [5]int{}},
		{"3 0>1=4 1>2=6 2>0=2", 1, [5][]int{{8, 0, 6}, {2, 100000, 6}, {6, 0, 6}, {1, 1, 1}, {2, 0, 1}}, [5]int{2, 2, 2, 2, 2}},
		{"4 0>1=999 1>0=999 2>3=1 3>2=1", 0, [5][]int{{0, 999, 100000, 100000}, {100000, 999, 0, 0}, {0, 999, 100000, 100000}, {1, 1, 0, 0}, {0, 1, 100000, 100000}}, [5]int{1, 1, 1, 1, 1}},
		{"4 0>1=9 0>2=3 1>2=1 2>1=4 2>3=8 3>1=9", 0, [5][]int{{0, 7, 3, 11}, {100000, 9, 3, 3}, {0, 4, 3, 8}, {1, 1, 1, 1}, {0, 1, 1, 2}}, [5]int{2, 2, 2, 2, 2}},
	}
	for _, c := range cases {
		g := graphOf(t, c.text)
		for i, k := range allKinds() {
			what := fmt.Sprintf("%s in %q from %d", k.name, c.text, c.source)
			got, ok := impl.ViewOf(g, k.m, c.source)
			wantView(t, what, got, ok, impl.View{Measure: k.m, Source: c.source, Values: c.values[i]})
			rounds, ok := impl.RoundsOf(g, k.m, c.source)
			wantValue(t, what+": RoundsOf", rounds, ok, c.rounds[i])
		}
	}
}

func TestStartView(t *testing.T) {
	for _, text := range textsOfGraphs() {
		g := graphOf(t, text)
		for _, k := range allKinds() {
			for source := range g.Nodes {
				got, ok := impl.StartView(g, k.m, source)
				wantView(t, k.name+": StartView of "+text, got, ok, startOf(k, g.Nodes, source))
			}
		}
	}
}

func TestOneNode(t *testing.T) {
	g := impl.Graph{Nodes: 1}
	for _, k := range allKinds() {
		want := startOf(k, 1, 0)
		got, ok := impl.StartView(g, k.m, 0)
		wantView(t, k.name+": StartView", got, ok, want)
		got, ok = impl.ViewOf(g, k.m, 0)
		wantView(t, k.name+": ViewOf", got, ok, want)
		got, ok = impl.RelaxAll(g, want)
		wantView(t, k.name+": RelaxAll", got, ok, want)
		if !impl.ViewValid(g, want) || !impl.IsStable(g, want) {
			t.Errorf("%s: the view of one node is not valid or not stable", k.name)
		}
		rounds, ok := impl.RoundsOf(g, k.m, 0)
		wantValue(t, k.name+": RoundsOf", rounds, ok, 0)
		for _, edges := range []int{0, 1, 50} {
			walk, ok := impl.BestWalk(g, k.m, 0, 0, edges)
			wantValue(t, k.name+": BestWalk", walk, ok, k.empty)
		}
	}
}

func TestNodesThatAreNotReached(t *testing.T) {
	g := graphOf(t, "5 0>1=3 1>0=3 2>0=1 3>4=2 4>3=2")
	for _, k := range allKinds() {
		got := viewOf(t, g, k.m, 0)
		for node := 2; node < 5; node++ {
			if got.Values[node] != k.none {
				t.Errorf("%s: the node %d, which is not reached, has %d", k.name, node, got.Values[node])
			}
			for _, edges := range []int{0, 1, 50} {
				walk, ok := impl.BestWalk(g, k.m, 0, node, edges)
				wantValue(t, k.name+": a walk to a node that is not reached", walk, ok, k.none)
			}
		}
	}
}

// TestCycles checks that a node on a cycle gets the best of the walks that reach it, and not what the cycle itself keeps up.
func TestCycles(t *testing.T) {
	for _, k := range allKinds() {
		for _, nodes := range []int{2, 3, impl.MaxNodes} {
			g := ring(nodes, impl.MaxWeight)
			for source := range nodes {
				got := viewOf(t, g, k.m, source)
				if got.Values[source] != k.empty {
					t.Errorf("%s: the source %d of a cycle has %d", k.name, source, got.Values[source])
				}
				for steps := 1; steps < nodes; steps++ {
					want, _ := impl.PathMeasure(k.m, repeatedWeight(impl.MaxWeight, steps))
					if v := got.Values[(source+steps)%nodes]; v != want {
						t.Errorf("%s: %d steps along a cycle are %d, want %d", k.name, steps, v, want)
					}
				}
				rounds, ok := impl.RoundsOf(g, k.m, source)
				wantValue(t, k.name+": RoundsOf a cycle", rounds, ok, nodes-1)
			}
		}
	}
	// The cycle of 1 and 2 is wide, but only the edge from 0 leads to it.
	wide := graphOf(t, "3 0>1=1 1>2=900 2>1=900")
	got, ok := impl.ViewOf(wide, impl.MeasureWidth, 0)
	wantView(t, "a wide cycle", got, ok, impl.View{Measure: impl.MeasureWidth, Values: []int{100000, 1, 1}})
}

func TestRelaxAll(t *testing.T) {
	cases := []struct {
		text string
		m    int
		from []int
		want []int
	}{
		// The value of an edge comes from the view before it changes.
		{"3 0>1=5 1>2=7", impl.MeasureLength, []int{0, 100000, 100000}, []int{0, 5, 100000}},
		{"3 0>1=5 1>2=7", impl.MeasureLength, []int{0, 5, 100000}, []int{0, 5, 12}},
		{"3 1>0=7 2>1=5", impl.MeasureLength, []int{100000, 100000, 0}, []int{100000, 5, 0}},
		{"3 0>1=5 1>2=7 2>0=1", impl.MeasureWidth, []int{100000, 3, 3}, []int{100000, 5, 3}},
		{"3 0>1=5 1>2=7 2>0=1", impl.MeasurePeak, []int{9, 8, 6}, []int{6, 8, 6}},
		{"3 0>1=5 1>2=7 2>0=1", impl.MeasureReach, []int{0, 1, 0}, []int{0, 1, 1}},
		{"3 0>1=5 1>2=7 2>0=1", impl.MeasureHops, []int{4, 9, 2}, []int{3, 5, 2}},
		// Several edges lead to one node, and the best one counts.
		{"4 0>3=5 1>3=4 2>3=6", impl.MeasureLength, []int{0, 0, 0, 100000}, []int{0, 0, 0, 4}},
		{"4 0>3=5 1>3=4 2>3=6", impl.MeasureWidth, []int{9, 9, 9, 0}, []int{9, 9, 9, 6}},
		{"4 0>3=5 1>3=4 2>3=6", impl.MeasurePeak, []int{0, 5, 0, 100000}, []int{0, 5, 0, 5}},
		// A node keeps a value that is better than those of all edges, also one that no walk has.
		{"4 0>3=5 1>3=4 2>3=6", impl.MeasureLength, []int{7, 7, 7, 3}, []int{7, 7, 7, 3}},
		{"2 0>1=5 1>0=5", impl.MeasureLength, []int{0, 0}, []int{0, 0}},
		{"2 0>1=5 1>0=5", impl.MeasureWidth, []int{100000, 100000}, []int{100000, 100000}},
		{"2 0>1=5 1>0=5", impl.MeasureWidth, []int{0, 0}, []int{0, 0}},
		// A sum stops at MaxMeasure, and is not better than no path.
		{"2 0>1=1", impl.MeasureLength, []int{99998, 100000}, []int{99998, 99999}},
		{"2 0>1=1", impl.MeasureLength, []int{99999, 100000}, []int{99999, 100000}},
		{"2 0>1=999", impl.MeasureLength, []int{99999, 100000}, []int{99999, 100000}},
		{"2 0>1=999", impl.MeasureHops, []int{99998, 100000}, []int{99998, 99999}},
		{"2 0>1=999", impl.MeasureHops, []int{100000, 100000}, []int{100000, 100000}},
		{"2 0>1=1", impl.MeasurePeak, []int{99999, 100000}, []int{99999, 99999}},
	}
	for _, c := range cases {
		g := graphOf(t, c.text)
		for source := range g.Nodes {
			what := fmt.Sprintf("RelaxAll of %v in %q", c.from, c.text)
			got, ok := impl.RelaxAll(g, impl.View{Measure: c.m, Source: source, Values: c.from})
			wantView(t, what, got, ok, impl.View{Measure: c.m, Source: source, Values: c.want})
			stable := impl.IsStable(g, impl.View{Measure: c.m, Source: source, Values: c.from})
			if stable != slices.Equal(c.from, c.want) {
				t.Errorf("IsStable of %v in %q = %v", c.from, c.text, stable)
			}
		}
	}
}

func TestViewValid(t *testing.T) {
	g := graphOf(t, "3 0>1=5 1>2=7")
	for _, k := range allKinds() {
		for _, v := range k.someValues() {
			for source := range 3 {
				for place := range 3 {
					valid := startOf(k, 3, source)
					valid.Values[place] = v
					if !impl.ViewValid(g, valid) {
						t.Errorf("%s: %v is not valid", k.name, valid)
					}
				}
			}
		}
	}
	most := impl.View{Measure: impl.MeasureHops, Source: 11, Values: slices.Repeat([]int{impl.MaxMeasure}, impl.MaxNodes)}
	if !impl.ViewValid(greatestGraph(), most) {
		t.Error("a view of the greatest graph is not valid")
	}
}

// invalidViews are no views of a graph with three nodes.
func invalidViews() map[string]impl.View {
	views := map[string]impl.View{
		"the zero value":      {},
		"no values":           {Measure: 1},
		"a value too few":     {Measure: 1, Values: []int{0, 1}},
		"a value too many":    {Measure: 1, Values: []int{0, 1, 2, 3}},
		"reach and width":     {Measure: impl.MeasureReach, Values: []int{1, 5, 0}},
		"reach and no length": {Measure: impl.MeasureReach, Values: []int{1, 0, 100000}},
	}
	for _, source := range []int{-1, 3, math.MinInt, math.MaxInt} {
		views[fmt.Sprintf("the source %d", source)] = impl.View{Measure: 1, Source: source, Values: []int{0, 1, 2}}
	}
	for _, m := range invalidKinds() {
		views[fmt.Sprintf("the kind %d", m)] = impl.View{Measure: m, Values: []int{0, 1, 1}}
	}
	for _, k := range allKinds() {
		for _, bad := range k.invalidValues() {
			for place := range 3 {
				v := startOf(k, 3, 0)
				v.Values[place] = bad
				views[fmt.Sprintf("%s: %d at %d", k.name, bad, place)] = v
			}
		}
	}
	return views
}

func wantInvalidView(t *testing.T, what string, g impl.Graph, v impl.View) {
	t.Helper()
	if impl.ViewValid(g, v) || impl.IsStable(g, v) {
		t.Errorf("%s: %v is valid or stable", what, v)
	}
	got, ok := impl.RelaxAll(g, v)
	wantNoView(t, what+": RelaxAll", got, ok)
}

func TestInvalidViews(t *testing.T) {
	for _, text := range []string{"3", "3 0>1=5 1>2=7"} {
		for name, v := range invalidViews() {
			wantInvalidView(t, name, graphOf(t, text), v)
		}
	}
	for name, g := range invalidGraphs() {
		for _, k := range allKinds() {
			for _, nodes := range []int{1, 3, impl.MaxNodes, impl.MaxNodes + 1} {
				wantInvalidView(t, name, g, startOf(k, nodes, 0))
			}
		}
		wantInvalidView(t, name, g, impl.View{Measure: 1})
	}
}

func TestViewSame(t *testing.T) {
	views := slices.Collect(maps.Values(invalidViews()))
	views = append(views,
		impl.View{Measure: 1, Source: 0, Values: []int{0, 1, 2}}, impl.View{Measure: 2, Source: 0, Values: []int{0, 1, 2}},
		impl.View{Measure: 1, Source: 1, Values: []int{0, 1, 2}}, impl.View{Measure: 1, Source: 0, Values: []int{0, 1, 3}},
		impl.View{Measure: 1, Source: 0, Values: []int{5, 1, 2}}, impl.View{Measure: 1, Source: 0, Values: []int{0, 2, 1}},
	)
	for i, a := range views {
		for j, b := range views {
			copied := impl.View{Measure: b.Measure, Source: b.Source, Values: slices.Clone(b.Values)}
			if got := impl.ViewSame(a, copied); got != (i == j) {
				t.Errorf("ViewSame(%v, %v) = %v", a, copied, got)
			}
		}
	}
	if !impl.ViewSame(impl.View{Measure: 1}, impl.View{Measure: 1, Values: []int{}}) {
		t.Error("nil and empty values are not the same")
	}
}

func wantNothingFrom(t *testing.T, what string, g impl.Graph, m int, source int) {
	t.Helper()
	got, ok := impl.StartView(g, m, source)
	wantNoView(t, what+": StartView", got, ok)
	got, ok = impl.ViewOf(g, m, source)
	wantNoView(t, what+": ViewOf", got, ok)
	rounds, ok := impl.RoundsOf(g, m, source)
	wantNoValue(t, what+": RoundsOf", rounds, ok)
	for _, edges := range []int{0, 2} {
		walk, ok := impl.BestWalk(g, m, source, 0, edges)
		wantNoValue(t, what+": BestWalk", walk, ok)
	}
}

// checkInvalidStarts calls check with a graph, a kind and a source of which one is not valid, or not one of the graph.
func checkInvalidStarts(t *testing.T, check func(t *testing.T, what string, g impl.Graph, m int, source int)) {
	t.Helper()
	for name, g := range invalidGraphs() {
		for _, k := range allKinds() {
			check(t, name, g, k.m, 0)
		}
	}
	g := graphOf(t, "3 0>1=5 1>2=7")
	for _, m := range invalidKinds() {
		check(t, fmt.Sprintf("the kind %d", m), g, m, 0)
	}
	for _, source := range []int{-1, 3, 12, math.MinInt, math.MaxInt} {
		for _, k := range allKinds() {
			check(t, fmt.Sprintf("%s: the source %d", k.name, source), g, k.m, source)
		}
	}
}

func TestViewsOfInvalidArguments(t *testing.T) {
	checkInvalidStarts(t, wantNothingFrom)
	for _, source := range []int{0, impl.MaxNodes - 1} {
		got, ok := impl.ViewOf(greatestGraph(), impl.MeasureReach, source)
		if !ok || got.Source != source || len(got.Values) != impl.MaxNodes {
			t.Errorf("the view from %d in the greatest graph = %v, %v", source, got, ok)
		}
	}
	wantNothingFrom(t, "one past the last node", greatestGraph(), impl.MeasureReach, impl.MaxNodes)
}

func TestBestWalk(t *testing.T) {
	g := graphOf(t, "4 0>1=9 0>3=500 1>2=8 2>1=1 2>3=7")
	want := map[int][4]int{
		impl.MeasureLength: {100000, 500, 500, 24},
		impl.MeasureWidth:  {0, 500, 500, 500},
		impl.MeasurePeak:   {100000, 500, 500, 9},
		impl.MeasureReach:  {0, 1, 1, 1},
		impl.MeasureHops:   {100000, 1, 1, 1},
	}
	for _, k := range allKinds() {
		for _, edges := range []int{0, 1, 2, 3, 4, 49, 50} {
			walk, ok := impl.BestWalk(g, k.m, 0, 3, edges)
			wantValue(t, fmt.Sprintf("%s: at most %d edges", k.name, edges), walk, ok, want[k.m][min(edges, 3)])
			walk, ok = impl.BestWalk(g, k.m, 0, 0, edges)
			wantValue(t, k.name+": to the source itself", walk, ok, k.empty)
		}
		for _, edges := range []int{-1, 51, math.MinInt, math.MaxInt} {
			walk, ok := impl.BestWalk(g, k.m, 0, 3, edges)
			wantNoValue(t, fmt.Sprintf("%s: %d edges", k.name, edges), walk, ok)
		}
		for _, target := range []int{-1, 4, math.MinInt, math.MaxInt} {
			walk, ok := impl.BestWalk(g, k.m, 0, target, 3)
			wantNoValue(t, fmt.Sprintf("%s: to %d", k.name, target), walk, ok)
		}
	}
}

// TestLongestRow has the walk with the most edges that a view can need.
func TestLongestRow(t *testing.T) {
	g := row(impl.MaxNodes, impl.MaxWeight)
	want := map[int]int{impl.MeasureLength: 11 * 999, impl.MeasureWidth: 999, impl.MeasurePeak: 999, impl.MeasureReach: 1, impl.MeasureHops: 11}
	for _, k := range allKinds() {
		if got := viewOf(t, g, k.m, 0).Values[11]; got != want[k.m] {
			t.Errorf("%s: the last node has %d, want %d", k.name, got, want[k.m])
		}
		rounds, ok := impl.RoundsOf(g, k.m, 0)
		wantValue(t, k.name+": RoundsOf", rounds, ok, 11)
		walk, ok := impl.BestWalk(g, k.m, 0, 11, 10)
		wantValue(t, k.name+": an edge too few", walk, ok, k.none)
		walk, ok = impl.BestWalk(g, k.m, 0, 11, 11)
		wantValue(t, k.name+": as many edges as needed", walk, ok, want[k.m])
	}
}

// TestBestWalkOfAllWalks compares with all walks of small graphs.
func TestBestWalkOfAllWalks(t *testing.T) {
	random := rand.New(rand.NewSource(3))
	for range 60 {
		g := randomGraph(random, 1+random.Intn(5), random.Intn(10), 9)
		source := random.Intn(g.Nodes)
		for _, k := range allKinds() {
			for edges := range 6 {
				walks := measuresOfWalks(t, g, k.m, source, withEdgesUpTo(edges))
				for target, values := range walks {
					got, ok := impl.BestWalk(g, k.m, source, target, edges)
					what := fmt.Sprintf("%s: at most %d edges from %d to %d in %q", k.name, edges, source, target, impl.FormatGraph(g))
					wantValue(t, what, got, ok, k.bestOf(values))
				}
			}
		}
	}
}

func TestRoundsReachTheRightView(t *testing.T) {
	random := rand.New(rand.NewSource(33))
	for range 100 {
		g := randomGraph(random, 1+random.Intn(impl.MaxNodes), random.Intn(impl.MaxEdges+1), 20)
		for _, k := range allKinds() {
			source := random.Intn(g.Nodes)
			v, ok := impl.StartView(g, k.m, source)
			rounds := 0
			for ok && !impl.IsStable(g, v) && rounds < impl.MaxNodes {
				for target := range g.Nodes {
					walk, ok := impl.BestWalk(g, k.m, source, target, rounds)
					wantValue(t, k.name+": a value in front of a round", walk, ok, v.Values[target])
				}
				v, ok = impl.RelaxAll(g, v)
				rounds++
			}
			got, fine := impl.ViewOf(g, k.m, source)
			if !ok || !fine || !impl.ViewSame(got, v) {
				t.Errorf("%s: rounds in %q from %d reach %v, ViewOf = %v", k.name, impl.FormatGraph(g), source, v, got)
			}
			counted, ok := impl.RoundsOf(g, k.m, source)
			wantValue(t, k.name+": RoundsOf "+impl.FormatGraph(g), counted, ok, rounds)
		}
	}
}

func TestViewArgumentsAreKept(t *testing.T) {
	// What is behind the length tells whether a function writes there.
	all := firstEdges(4, 12)
	g := impl.Graph{Nodes: 4, Edges: all[:6]}
	for _, k := range allKinds() {
		long := append(startOf(k, 4, 1).Values, 1, 1, 1, 1)
		before := slices.Clone(long)
		v := impl.View{Measure: k.m, Source: 1, Values: long[:4]}
		var results [3]impl.View
		results[0], _ = impl.StartView(g, k.m, 1)
		results[1], _ = impl.ViewOf(g, k.m, 1)
		results[2], _ = impl.RelaxAll(g, v)
		impl.ViewValid(g, v)
		impl.IsStable(g, v)
		wanted := results
		for i, r := range results {
			wanted[i].Values = slices.Clone(r.Values)
		}
		for i, r := range results {
			if !slices.Equal(r.Values, wanted[i].Values) {
				t.Errorf("%s: a change of a result changes the result %d", k.name, i)
			}
			values := r.Values[:cap(r.Values)]
			for place := range values {
				values[place] = 77
			}
		}
		if !slices.Equal(long, before) || !slices.Equal(all, firstEdges(4, 12)) {
			t.Errorf("%s: the arguments became %v and %v", k.name, long, all)
		}
		got, ok := impl.ViewOf(g, k.m, 1)
		wantView(t, k.name+": ViewOf behind a change of a result", got, ok, wanted[1])
	}
}

// stableViews are all stable views with a value of choices at each node.
func stableViews(g impl.Graph, m int, source int, choices [][]int) []impl.View {
	var found []impl.View
	values := make([]int, g.Nodes)
	var choose func(node int)
	choose = func(node int) {
		if node == g.Nodes {
			v := impl.View{Measure: m, Source: source, Values: slices.Clone(values)}
			if impl.IsStable(g, v) {
				found = append(found, v)
			}
			return
		}
		for _, value := range choices[node] {
			values[node] = value
			choose(node + 1)
		}
	}
	choose(0)
	return found
}

// TestPromise3 checks that the right view has the best measures of all paths and is stable,
// and that it is the best one of all stable views whose values are measures of walks or of no path.
func TestPromise3(t *testing.T) {
	random := rand.New(rand.NewSource(333))
	for range 60 {
		g := randomGraph(random, 1+random.Intn(impl.MaxNodes), random.Intn(30), 1+random.Intn(impl.MaxWeight))
		for _, k := range allKinds() {
			source := random.Intn(g.Nodes)
			got, ok := impl.ViewOf(g, k.m, source)
			what := fmt.Sprintf("%s: from %d in %q", k.name, source, impl.FormatGraph(g))
			wantView(t, what, got, ok, impl.View{Measure: k.m, Source: source, Values: k.bestByPaths(t, g, source)})
			if !impl.ViewValid(g, got) || !impl.IsStable(g, got) {
				t.Errorf("%s: %v is not valid or not stable", what, got)
			}
		}
	}
	for range 40 {
		g := randomGraph(random, 1+random.Intn(4), random.Intn(8), 5)
		for _, k := range allKinds() {
			source := random.Intn(g.Nodes)
			right := viewOf(t, g, k.m, source)
			var choices [][]int
			for _, values := range measuresOfWalks(t, g, k.m, source, withEdgesUpTo(4)) {
				values[k.none] = true
				choices = append(choices, slices.Sorted(maps.Keys(values)))
			}
			stable := stableViews(g, k.m, source, choices)
			if !slices.ContainsFunc(stable, func(v impl.View) bool { return impl.ViewSame(v, right) }) {
				t.Errorf("%s: %v is not one of the stable views of %q", k.name, right, impl.FormatGraph(g))
			}
			for _, v := range stable {
				for node, value := range v.Values {
					if impl.IsBetter(k.m, value, right.Values[node]) {
						t.Errorf("%s: %v is stable in %q, and better than %v at %d", k.name, v, impl.FormatGraph(g), right, node)
					}
				}
			}
		}
	}
}
