package tests

import (
	"fmt"
	"math"
	"math/rand"
	"slices"
	"testing"

	"loop.example/graphviews/impl"
)

func wantNearest(t *testing.T, what string, values []int, owners []int, ok bool, wantValues []int, wantOwners []int) {
	t.Helper()
	if !ok || !slices.Equal(values, wantValues) || !slices.Equal(owners, wantOwners) {
		t.Errorf("%s = %v, %v, %v, want %v, %v, true", what, values, owners, ok, wantValues, wantOwners)
	}
}

func wantNoNearest(t *testing.T, what string, values []int, owners []int, ok bool) {
	t.Helper()
	if ok || len(values) != 0 || len(owners) != 0 {
		t.Errorf("%s = %v, %v, %v, want no values, no owners, false", what, values, owners, ok)
	}
}

// nodes is a list of nodes, written like the values that are wanted.
func nodes(list ...int) []int { return list }

// invalidLists are no lists of different nodes of a graph with three nodes.
func invalidLists() [][]int {
	lists := [][]int{{0, 0}, {2, 2}, {1, 2, 1}, {1, 1, 2}, {2, 1, 1}, {0, 1, 2, 0}, {2, 1, 0, 1}, slices.Repeat([]int{1}, 13), slices.Repeat([]int{0, 1, 2}, 10000)}
	for _, bad := range []int{-1, 3, 11, 12, 13, math.MinInt, math.MaxInt} {
		lists = append(lists, []int{bad}, []int{bad, 1}, []int{1, bad}, []int{1, bad, 2}, []int{bad, bad})
	}
	return lists
}

// randomNodes are count different nodes of g in any order.
func randomNodes(random *rand.Rand, g impl.Graph, count int) []int {
	return random.Perm(g.Nodes)[:count]
}

// withoutByCuts does what the document says of WithoutNodes with different nodes, one edge after the other.
func withoutByCuts(t *testing.T, g impl.Graph, list []int) impl.Graph {
	t.Helper()
	left := g
	for _, e := range g.Edges {
		if slices.Contains(list, e.From) || slices.Contains(list, e.To) {
			left = withoutEdge(t, left, e)
		}
	}
	return left
}

func withoutEdge(t *testing.T, g impl.Graph, e impl.Edge) impl.Graph {
	t.Helper()
	left, ok := impl.CutEdge(g, e.From, e.To)
	if !ok {
		t.Fatalf("%v is not cut from %q", e, impl.FormatGraph(g))
	}
	return left
}

// nearestByScans does what the document says of NearestOf with valid arguments.
func nearestByScans(t *testing.T, g impl.Graph, m int, sources []int) ([]int, []int) {
	t.Helper()
	var values, owners []int
	none, _ := impl.NoPath(m)
	for node := range g.Nodes {
		best := none
		for _, source := range sources {
			best = better(t, m, best, viewOf(t, g, m, source).Values[node])
		}
		place := slices.IndexFunc(sources, func(source int) bool { return viewOf(t, g, m, source).Values[node] == best })
		values = append(values, best)
		if best == none {
			owners = append(owners, -1)
		} else {
			owners = append(owners, sources[place])
		}
	}
	return values, owners
}

// withinByScans does what the document says of WithinBound with valid arguments.
func withinByScans(v impl.View, bound int) []int {
	return slices.DeleteFunc(firstNodes(len(v.Values)), func(node int) bool { return impl.IsBetter(v.Measure, bound, v.Values[node]) })
}

// isReached reports whether ViewOf reaches node from source.
func isReached(t *testing.T, g impl.Graph, source int, node int) bool {
	t.Helper()
	return slices.Contains(impl.ReachedNodes(g, viewOf(t, g, impl.MeasureReach, source)), node)
}

// bridgesByScans does what the document says of BridgeNodes with a node that is reached.
func bridgesByScans(t *testing.T, g impl.Graph, source int, node int) []int {
	t.Helper()
	return slices.DeleteFunc(firstNodes(g.Nodes), func(other int) bool {
		return other == source || other == node || isReached(t, withoutByCuts(t, g, nodes(other)), source, node)
	})
}

// criticalByScans does what the document says of CriticalEdges with valid arguments.
func criticalByScans(t *testing.T, g impl.Graph, m int, source int) []impl.Edge {
	t.Helper()
	return slices.DeleteFunc(slices.Clone(g.Edges), func(e impl.Edge) bool {
		return impl.ViewSame(viewOf(t, withoutEdge(t, g, e), m, source), viewOf(t, g, m, source))
	})
}

// ranksByScans takes the first one of the best nodes that are left, again and again.
func ranksByScans(v impl.View) []int {
	left := firstNodes(len(v.Values))
	var ranks []int
	for len(left) > 0 {
		place := 0
		for i, node := range left {
			if impl.IsBetter(v.Measure, v.Values[node], v.Values[left[place]]) {
				place = i
			}
		}
		ranks = append(ranks, left[place])
		left = slices.Delete(left, place, place+1)
	}
	return ranks
}

// TestDerivedExample has the edges of the example in ascending order, as the text of a graph has them.
func TestDerivedExample(t *testing.T) {
	g := graphOf(t, "4 0>1=1 1>2=1 1>3=5 2>3=1")
	bridges, ok := impl.BridgeNodes(g, 0, 3)
	wantNumbers(t, "the nodes without which 3 is not reached", bridges, ok, 1)
	v, ok := impl.ViewAvoiding(g, impl.MeasureLength, 0, nodes(1))
	wantView(t, "without 1", v, ok, lengths(0, 0, 100000, 100000, 100000))
	v, ok = impl.ViewAvoiding(g, impl.MeasureLength, 0, nodes(2))
	wantView(t, "without 2", v, ok, lengths(0, 0, 1, 100000, 6))
}

func TestWithoutNodes(t *testing.T) {
	text := "4 0>1=1 0>2=2 1>2=3 2>0=4 2>3=5 3>1=6"
	cases := []struct {
		text  string
		nodes []int
		want  string
	}{
		{text, nil, text},
		{text, nodes(), text},
		{text, nodes(0), "4 1>2=3 2>3=5 3>1=6"},
		{text, nodes(1), "4 0>2=2 2>0=4 2>3=5"},
		{text, nodes(2), "4 0>1=1 3>1=6"},
		{text, nodes(3), "4 0>1=1 0>2=2 1>2=3 2>0=4"},
		{text, nodes(0, 3), "4 1>2=3"},
		{text, nodes(3, 0), "4 1>2=3"},
		{text, nodes(1, 3), "4 0>2=2 2>0=4"},
		{text, nodes(0, 2), "4 3>1=6"},
		{text, nodes(2, 1, 0), "4"},
		{text, nodes(3, 1, 0, 2), "4"},
		{"4 0>1=5", nodes(2), "4 0>1=5"},
		{"4 0>1=5", nodes(3, 2), "4 0>1=5"},
		{"2 0>1=5 1>0=6", nodes(1), "2"},
		{"1", nil, "1"},
		{"1", nodes(0), "1"},
		{"12 0>11=1 11>0=2 11>10=3", nodes(10), "12 0>11=1 11>0=2"},
		{"12 0>11=1 1>10=4 11>0=2 11>10=3", nodes(11), "12 1>10=4"},
	}
	for _, c := range cases {
		got, ok := impl.WithoutNodes(graphOf(t, c.text), c.nodes)
		wantGraph(t, fmt.Sprintf("%q without %v", c.text, c.nodes), got, ok, c.want)
	}
}

func TestViewAvoiding(t *testing.T) {
	text := "5 0>1=1 0>2=9 1>3=1 2>3=4 3>4=2 4>2=7"
	cases := []struct {
		source int
		nodes  []int
		values [5][]int
	}{
		{0, nil, [5][]int{{0, 1, 9, 2, 4}, {100000, 1, 9, 4, 2}, {0, 1, 7, 1, 2}, {1, 1, 1, 1, 1}, {0, 1, 1, 2, 3}}},
		{0, nodes(1), [5][]int{{0, 100000, 9, 13, 15}, {100000, 0, 9, 4, 2}, {0, 100000, 9, 9, 9}, {1, 0, 1, 1, 1}, {0, 100000, 1, 2, 3}}},
		{0, nodes(2), [5][]int{{0, 1, 100000, 2, 4}, {100000, 1, 0, 1, 1}, {0, 1, 100000, 1, 2}, {1, 1, 0, 1, 1}, {0, 1, 100000, 2, 3}}},
		{0, nodes(2, 1), [5][]int{{0, 100000, 100000, 100000, 100000}, {100000, 0, 0, 0, 0}, {0, 100000, 100000, 100000, 100000}, {1, 0, 0, 0, 0}, {0, 100000, 100000, 100000, 100000}}},
		{0, nodes(4), [5][]int{{0, 1, 9, 2, 100000}, {100000, 1, 9, 4, 0}, {0, 1, 9, 1, 100000}, {1, 1, 1, 1, 0}, {0, 1, 1, 2, 100000}}},
		{3, nodes(0, 1), [5][]int{{100000, 100000, 9, 0, 2}, {0, 0, 2, 100000, 2}, {100000, 100000, 7, 0, 2}, {0, 0, 1, 1, 1}, {100000, 100000, 2, 0, 1}}},
		{3, nodes(4, 2, 1, 0), [5][]int{{100000, 100000, 100000, 0, 100000}, {0, 0, 0, 100000, 0}, {100000, 100000, 100000, 0, 100000}, {0, 0, 0, 1, 0}, {100000, 100000, 100000, 0, 100000}}},
	}
	for _, c := range cases {
		for i, k := range allKinds() {
			got, ok := impl.ViewAvoiding(graphOf(t, text), k.m, c.source, c.nodes)
			wantView(t, fmt.Sprintf("%s from %d without %v", k.name, c.source, c.nodes), got, ok, impl.View{Measure: k.m, Source: c.source, Values: c.values[i]})
		}
	}
}

func TestViewsThatAvoidTheirSource(t *testing.T) {
	for _, text := range []string{"3", "3 0>1=5 1>2=7", "3 0>1=5 1>0=5 1>2=7 2>1=7"} {
		for _, k := range allKinds() {
			for source := range 3 {
				other, third := (source+1)%3, (source+2)%3
				for _, list := range [][]int{{source}, {source, other}, {other, source}, {other, source, third}, {third, other, source}} {
					got, ok := impl.ViewAvoiding(graphOf(t, text), k.m, source, list)
					wantNoView(t, fmt.Sprintf("%s from %d in %q without %v", k.name, source, text, list), got, ok)
				}
			}
		}
	}
	got, ok := impl.ViewAvoiding(graphOf(t, "1"), impl.MeasureLength, 0, nodes(0))
	wantNoView(t, "one node without itself", got, ok)
}

// nearestCase is a list of sources with the values of the nodes and the first source that gives each one.
type nearestCase struct {
	what    string
	text    string
	m       int
	sources []int
	values  []int
	owners  []int
}

func TestNearestOf(t *testing.T) {
	between := "5 0>2=3 1>2=3 2>3=4 3>4=4"
	funnel := "4 0>2=8 1>2=9 2>3=5"
	pass := "4 0>2=8 1>2=7 2>3=9"
	chain := "3 0>1=4 1>2=4"
	cases := []nearestCase{
		{"one source", between, impl.MeasureLength, nodes(0), []int{0, 100000, 3, 7, 11}, []int{0, -1, 0, 0, 0}},
		{"one source that reaches nothing", between, impl.MeasureLength, nodes(4), []int{100000, 100000, 100000, 100000, 0}, []int{-1, -1, -1, -1, 4}},
		{"a source on the way of another one", between, impl.MeasureLength, nodes(0, 3), []int{0, 100000, 3, 0, 4}, []int{0, -1, 0, 3, 3}},
		{"a source on the way of another one, in front of it", between, impl.MeasureLength, nodes(3, 0), []int{0, 100000, 3, 0, 4}, []int{0, -1, 0, 3, 3}},
		{"sources that reach no node together", "4 0>1=5 3>2=6", impl.MeasureLength, nodes(3, 0), []int{0, 5, 6, 0}, []int{0, 0, 3, 3}},
		{"all nodes", between, impl.MeasureLength, nodes(4, 2, 0, 1, 3), []int{0, 0, 0, 0, 0}, []int{0, 1, 2, 3, 4}},
		{"all nodes of a graph without edges", "3", impl.MeasureWidth, nodes(2, 0, 1), []int{100000, 100000, 100000}, []int{0, 1, 2}},
		{"one node", "1", impl.MeasureReach, nodes(0), []int{1}, []int{0}},
		// Nodes that two sources reach equally well: the first one in the list counts, not the least one.
		{"equal lengths", between, impl.MeasureLength, nodes(0, 1), []int{0, 0, 3, 7, 11}, []int{0, 1, 0, 0, 0}},
		{"equal lengths, the other way round", between, impl.MeasureLength, nodes(1, 0), []int{0, 0, 3, 7, 11}, []int{0, 1, 1, 1, 1}},
		{"equal lengths of three", "4 0>3=2 1>3=2 2>3=2", impl.MeasureLength, nodes(1, 2, 0), []int{0, 0, 0, 2}, []int{0, 1, 2, 1}},
		{"the last two are equally good, and better", "4 0>3=3 1>3=2 2>3=2", impl.MeasureLength, nodes(0, 2, 1), []int{0, 0, 0, 2}, []int{0, 1, 2, 2}},
		{"the outer two are equally good, and better", "4 0>3=2 1>3=3 2>3=2", impl.MeasureLength, nodes(2, 1, 0), []int{0, 0, 0, 2}, []int{0, 1, 2, 2}},
		{"equal lengths by different numbers of edges", "4 0>2=2 1>3=5 2>3=3", impl.MeasureLength, nodes(1, 0), []int{0, 0, 2, 5}, []int{0, 1, 0, 1}},
		// The source that is worse at 2 is as good at 3 and behind, and in front in the list.
		{"equal widths behind unequal ones", funnel, impl.MeasureWidth, nodes(0, 1), []int{100000, 100000, 9, 5}, []int{0, 1, 1, 0}},
		{"equal widths behind unequal ones, the other way round", funnel, impl.MeasureWidth, nodes(1, 0), []int{100000, 100000, 9, 5}, []int{0, 1, 1, 1}},
		{"equal peaks behind unequal ones", pass, impl.MeasurePeak, nodes(0, 1), []int{0, 0, 7, 9}, []int{0, 1, 1, 0}},
		{"equal peaks behind unequal ones, the other way round", pass, impl.MeasurePeak, nodes(1, 0), []int{0, 0, 7, 9}, []int{0, 1, 1, 1}},
		// A source that is reached from another one.
		{"a source that another one reaches as well as itself", chain, impl.MeasureReach, nodes(0, 1), []int{1, 1, 1}, []int{0, 0, 0}},
		{"a source in front of one that reaches it", chain, impl.MeasureReach, nodes(1, 0), []int{1, 1, 1}, []int{0, 1, 1}},
		{"a row of sources", chain, impl.MeasureReach, nodes(2, 1, 0), []int{1, 1, 1}, []int{0, 1, 2}},
		{"a row of sources with widths", chain, impl.MeasureWidth, nodes(0, 1), []int{100000, 100000, 4}, []int{0, 1, 0}},
		{"a row of sources with peaks", chain, impl.MeasurePeak, nodes(0, 1), []int{0, 0, 4}, []int{0, 1, 0}},
		{"a row of sources with hops", chain, impl.MeasureHops, nodes(0, 1), []int{0, 0, 1}, []int{0, 1, 1}},
		{"sources on a cycle", "4 0>1=1 1>2=1 2>3=1 3>0=1", impl.MeasureHops, nodes(2, 0), []int{0, 1, 0, 1}, []int{0, 0, 2, 2}},
		{"the weight counts for a length, and not for hops", "3 0>2=9 1>2=1", impl.MeasureHops, nodes(0, 1), []int{0, 0, 1}, []int{0, 1, 0}},
		{"a node that is not reached is of no source, with widths", "4 0>1=5 3>0=1", impl.MeasureWidth, nodes(1, 0), []int{100000, 100000, 0, 0}, []int{0, 1, -1, -1}},
		{"a node that is not reached is of no source, with reaches", "4 0>1=5 3>0=1", impl.MeasureReach, nodes(1, 0), []int{1, 1, 0, 0}, []int{0, 1, -1, -1}},
	}
	for _, c := range cases {
		values, owners, ok := impl.NearestOf(graphOf(t, c.text), c.m, c.sources)
		wantNearest(t, fmt.Sprintf("%s: NearestOf %v", c.what, c.sources), values, owners, ok, c.values, c.owners)
	}
}

func TestWithinBound(t *testing.T) {
	g := graphOf(t, "4 0>1=1 1>2=1 1>3=5 2>3=1")
	cases := []struct {
		m      int
		values []int
		bound  int
		want   []int
	}{
		{impl.MeasureLength, []int{0, 1, 2, 3}, 2, nodes(0, 1, 2)},
		{impl.MeasureLength, []int{0, 1, 2, 3}, 0, nodes(0)},
		{impl.MeasureLength, []int{0, 1, 2, 3}, 3, nodes(0, 1, 2, 3)},
		{impl.MeasureLength, []int{3, 2, 1, 2}, 2, nodes(1, 2, 3)},
		{impl.MeasureLength, []int{3, 2, 1, 2}, 0, nil},
		{impl.MeasureWidth, []int{100000, 5, 4, 6}, 5, nodes(0, 1, 3)},
		{impl.MeasureWidth, []int{100000, 5, 4, 6}, 6, nodes(0, 3)},
		{impl.MeasureWidth, []int{100000, 5, 4, 6}, 7, nodes(0)},
		{impl.MeasureWidth, []int{100000, 5, 4, 6}, 100000, nodes(0)},
		{impl.MeasureWidth, []int{99999, 5, 4, 6}, 100000, nil},
		{impl.MeasurePeak, []int{0, 5, 4, 6}, 5, nodes(0, 1, 2)},
		{impl.MeasureReach, []int{1, 0, 1, 0}, 1, nodes(0, 2)},
		{impl.MeasureHops, []int{0, 2, 1, 3}, 1, nodes(0, 2)},
		// A bound that is no path is not better than any value; one that is almost none leaves out the nodes that are not reached.
		{impl.MeasureLength, []int{0, 100000, 99999, 5}, 100000, nodes(0, 1, 2, 3)},
		{impl.MeasureLength, []int{0, 100000, 99999, 5}, 99999, nodes(0, 2, 3)},
		{impl.MeasureLength, []int{0, 100000, 99999, 5}, 99998, nodes(0, 3)},
		{impl.MeasureWidth, []int{100000, 0, 1, 2}, 0, nodes(0, 1, 2, 3)},
		{impl.MeasureWidth, []int{100000, 0, 1, 2}, 1, nodes(0, 2, 3)},
		{impl.MeasureWidth, []int{0, 0, 0, 0}, 0, nodes(0, 1, 2, 3)},
		{impl.MeasurePeak, []int{0, 100000, 99999, 5}, 100000, nodes(0, 1, 2, 3)},
		{impl.MeasurePeak, []int{0, 100000, 99999, 5}, 99999, nodes(0, 2, 3)},
		{impl.MeasureReach, []int{1, 0, 1, 0}, 0, nodes(0, 1, 2, 3)},
		{impl.MeasureReach, []int{0, 0, 0, 0}, 0, nodes(0, 1, 2, 3)},
		{impl.MeasureReach, []int{0, 0, 0, 0}, 1, nil},
		{impl.MeasureHops, []int{0, 100000, 1, 2}, 100000, nodes(0, 1, 2, 3)},
		{impl.MeasureHops, []int{0, 100000, 1, 2}, 99999, nodes(0, 2, 3)},
	}
	for _, c := range cases {
		for source := range 4 {
			// The view need not be right.
			got, ok := impl.WithinBound(g, impl.View{Measure: c.m, Source: source, Values: c.values}, c.bound)
			wantNumbers(t, fmt.Sprintf("the nodes of %v of the kind %d within %d", c.values, c.m, c.bound), got, ok, c.want...)
		}
	}
}

func TestBoundsThatAreNoMeasures(t *testing.T) {
	g := graphOf(t, "3 0>1=5 1>2=7")
	for _, k := range allKinds() {
		for _, v := range []impl.View{startOf(k, 3, 0), viewOf(t, g, k.m, 0), viewOf(t, g, k.m, 2)} {
			for _, bound := range k.invalidValues() {
				got, ok := impl.WithinBound(g, v, bound)
				wantNoNumbers(t, fmt.Sprintf("%s: the nodes of %v within %d", k.name, v, bound), got, ok)
			}
			for _, bound := range k.someValues() {
				got, ok := impl.WithinBound(g, v, bound)
				wantNumbers(t, fmt.Sprintf("%s: the nodes of %v within %d", k.name, v, bound), got, ok, withinByScans(v, bound)...)
			}
		}
	}
	// A bound of another kind.
	got, ok := impl.WithinBound(g, viewOf(t, g, impl.MeasureReach, 0), 5)
	wantNoNumbers(t, "the bound 5 for a reach", got, ok)
}

func TestBridgeNodes(t *testing.T) {
	cases := []struct {
		what   string
		text   string
		source int
		node   int
		want   []int
	}{
		{"the source itself", "4 0>1=1 1>0=1 1>2=1", 0, 0, nil},
		{"the source itself, on a cycle", "3 0>1=1 1>2=1 2>0=1", 1, 1, nil},
		{"one node", "1", 0, 0, nil},
		{"one edge", "2 0>1=5", 0, 1, nil},
		{"a row", "4 0>1=1 1>2=1 2>3=1", 0, 3, nodes(1, 2)},
		{"a part of a row", "4 0>1=1 1>2=1 2>3=1", 1, 3, nodes(2)},
		{"a row the other way round", "4 1>0=1 2>1=1 3>2=1", 3, 0, nodes(1, 2)},
		{"nodes that are not in the order of the row", "5 0>3=1 1>4=1 2>1=1 3>2=1", 0, 4, nodes(1, 2, 3)},
		{"two ways", "4 0>1=1 0>2=1 1>3=1 2>3=1", 0, 3, nil},
		{"two ways, of which one is worse", "4 0>1=1 0>2=999 1>3=1 2>3=999", 0, 3, nil},
		{"an edge beside the way", "3 0>1=1 0>2=999 1>2=1", 0, 2, nil},
		{"two ways that meet", "5 0>1=1 0>2=1 1>3=1 2>3=1 3>4=1", 0, 4, nodes(3)},
		{"a way that parts", "5 0>1=1 1>2=1 1>3=1 2>4=1 3>4=1", 0, 4, nodes(1)},
		{"ways that meet and part", "7 0>1=1 0>2=1 1>3=1 2>3=1 3>4=1 3>5=1 4>6=1 5>6=1", 0, 6, nodes(3)},
		{"a way that jumps over one node each time", "5 0>1=1 0>2=1 1>2=1 1>3=1 2>3=1 2>4=1 3>4=1", 0, 4, nil},
		{"nodes beside the way and behind the node", "6 0>1=1 0>4=1 1>2=1 2>5=1 3>2=1 4>0=1", 0, 2, nodes(1)},
		{"a way back from the node", "4 0>1=1 1>2=1 2>1=1 2>3=1 3>0=1", 0, 3, nodes(1, 2)},
		{"a way back to the source", "4 0>1=1 1>0=1 1>2=1 2>0=1 2>3=1", 0, 3, nodes(1, 2)},
	}
	for _, c := range cases {
		got, ok := impl.BridgeNodes(graphOf(t, c.text), c.source, c.node)
		wantNumbers(t, c.what, got, ok, c.want...)
	}
}

func TestBridgesToNodesThatAreNotReached(t *testing.T) {
	for _, c := range []struct {
		text   string
		source int
		node   int
	}{
		{"2", 0, 1}, {"2 0>1=5", 1, 0}, {"4 0>1=1 1>2=1 3>2=1", 0, 3}, {"4 0>1=1 1>2=1 3>2=1", 2, 0}, {"4 0>1=1 1>0=1 2>3=1 3>2=1", 0, 3}, {"12 0>1=1", 0, 11},
	} {
		got, ok := impl.BridgeNodes(graphOf(t, c.text), c.source, c.node)
		wantNoNumbers(t, fmt.Sprintf("BridgeNodes from %d to %d in %q", c.source, c.node, c.text), got, ok)
	}
}

// criticalCase is a graph with its edges that are critical for each kind, as the edges of a graph.
type criticalCase struct {
	what   string
	text   string
	source int
	want   [5]string
}

func (c criticalCase) check(t *testing.T) {
	t.Helper()
	g := graphOf(t, c.text)
	for i, k := range allKinds() {
		got, ok := impl.CriticalEdges(g, k.m, c.source)
		wantEdges(t, c.what+": "+k.name, got, ok, graphOf(t, c.want[i]).Edges...)
	}
}

func forEachKind(text string) [5]string { return [5]string{text, text, text, text, text} }

func TestCriticalEdges(t *testing.T) {
	cases := []criticalCase{
		{"no edges", "3", 1, forEachKind("3")},
		{"one node", "1", 0, forEachKind("1")},
		{"one edge", "2 0>1=5", 0, forEachKind("2 0>1=5")},
		{"a row", "3 0>1=5 1>2=7", 0, forEachKind("3 0>1=5 1>2=7")},
		{"edges that are not reached", "3 0>1=5 1>2=7", 1, forEachKind("3 1>2=7")},
		{"edges that lead to the source", "3 0>1=5 1>0=5 1>2=7 2>0=1", 0, forEachKind("3 0>1=5 1>2=7")},
		{"a ring", "4 0>1=5 1>2=5 2>3=5 3>0=5", 2, forEachKind("4 0>1=5 2>3=5 3>0=5")},
		{"nodes that hold each other up", "4 0>1=9 1>2=9 2>1=9 2>3=9", 0, forEachKind("4 0>1=9 1>2=9 2>3=9")},
		{"the document's graph", "4 0>1=1 1>2=1 1>3=5 2>3=1", 0, [5]string{"4 0>1=1 1>2=1 2>3=1", "4 0>1=1 1>2=1", "4 0>1=1 1>2=1 2>3=1", "4 0>1=1 1>2=1", "4 0>1=1 1>2=1 1>3=5"}},
		// An edge beside another best one is not critical, and neither is this one.
		{"two best ways", "4 0>1=1 0>2=1 1>3=1 2>3=1", 0, forEachKind("4 0>1=1 0>2=1")},
		{"two best ways with another edge", "4 0>1=2 0>2=1 1>3=1 2>3=2", 0, forEachKind("4 0>1=2 0>2=1")},
		{"a best edge beside a best way", "3 0>1=2 0>2=5 1>2=3", 0, [5]string{"3 0>1=2", "3 0>1=2 0>2=5", "3 0>1=2 1>2=3", "3 0>1=2", "3 0>1=2 0>2=5"}},
		{"a best edge beside one that is almost as good", "3 0>1=2 0>2=5 1>2=2", 0, [5]string{"3 0>1=2 1>2=2", "3 0>1=2 0>2=5", "3 0>1=2 1>2=2", "3 0>1=2", "3 0>1=2 0>2=5"}},
		{"two best ways with a common edge", "5 0>1=1 1>2=1 1>3=1 2>4=1 3>4=1", 0, forEachKind("5 0>1=1 1>2=1 1>3=1")},
		{"three best ways", "5 0>1=1 0>2=1 0>3=1 1>4=1 2>4=1 3>4=1", 0, forEachKind("5 0>1=1 0>2=1 0>3=1")},
		{"edges both ways between three nodes", "3 0>1=1 0>2=1 1>0=1 1>2=1 2>0=1 2>1=1", 0, [5]string{"3 0>1=1 0>2=1", "3", "3", "3", "3 0>1=1 0>2=1"}},
		{"an edge that only one other node needs", "4 0>1=2 0>2=9 1>2=3 2>3=1", 0, [5]string{"4 0>1=2 1>2=3 2>3=1", "4 0>1=2 0>2=9 2>3=1", "4 0>1=2 1>2=3 2>3=1", "4 0>1=2 2>3=1", "4 0>1=2 0>2=9 2>3=1"}},
	}
	for _, c := range cases {
		c.check(t)
	}
}

func TestRanksOf(t *testing.T) {
	g := graphOf(t, "4 0>1=1 1>2=1 1>3=5 2>3=1")
	cases := []struct {
		m      int
		values []int
		want   []int
	}{
		{impl.MeasureLength, []int{0, 1, 2, 3}, nodes(0, 1, 2, 3)},
		{impl.MeasureLength, []int{3, 2, 1, 0}, nodes(3, 2, 1, 0)},
		{impl.MeasureLength, []int{2, 100000, 0, 99999}, nodes(2, 0, 3, 1)},
		{impl.MeasureWidth, []int{0, 100000, 1, 5}, nodes(1, 3, 2, 0)},
		{impl.MeasureWidth, []int{1, 2, 3, 4}, nodes(3, 2, 1, 0)},
		{impl.MeasurePeak, []int{7, 3, 100000, 5}, nodes(1, 3, 0, 2)},
		{impl.MeasureHops, []int{2, 1, 0, 3}, nodes(2, 1, 0, 3)},
		// Equal values.
		{impl.MeasureLength, []int{5, 5, 5, 5}, nodes(0, 1, 2, 3)},
		{impl.MeasureLength, []int{5, 3, 5, 3}, nodes(1, 3, 0, 2)},
		{impl.MeasureWidth, []int{5, 3, 5, 3}, nodes(0, 2, 1, 3)},
		{impl.MeasureWidth, []int{0, 0, 0, 0}, nodes(0, 1, 2, 3)},
		{impl.MeasurePeak, []int{100000, 4, 100000, 4}, nodes(1, 3, 0, 2)},
		{impl.MeasureReach, []int{0, 1, 0, 1}, nodes(1, 3, 0, 2)},
		{impl.MeasureReach, []int{1, 0, 1, 1}, nodes(0, 2, 3, 1)},
		{impl.MeasureHops, []int{9, 9, 1, 9}, nodes(2, 0, 1, 3)},
	}
	for _, c := range cases {
		for source := range 4 {
			got, ok := impl.RanksOf(g, impl.View{Measure: c.m, Source: source, Values: c.values})
			wantNumbers(t, fmt.Sprintf("RanksOf %v of the kind %d", c.values, c.m), got, ok, c.want...)
		}
	}
	got, ok := impl.RanksOf(graphOf(t, "1"), lengths(0, 7))
	wantNumbers(t, "RanksOf one node", got, ok, 0)
	// Many equal values, of two kinds.
	for _, k := range allKinds() {
		got, ok := impl.RanksOf(impl.Graph{Nodes: impl.MaxNodes}, impl.View{Measure: k.m, Values: slices.Repeat([]int{1, 0}, impl.MaxNodes/2)})
		want := nodes(1, 3, 5, 7, 9, 11, 0, 2, 4, 6, 8, 10)
		if k.none == 0 {
			want = nodes(0, 2, 4, 6, 8, 10, 1, 3, 5, 7, 9, 11)
		}
		wantNumbers(t, k.name+": RanksOf equal values", got, ok, want...)
	}
}

// wantDerivedLikeScans compares all functions with transcriptions of the document.
func wantDerivedLikeScans(t *testing.T, g impl.Graph, v impl.View, bound int, list []int) {
	t.Helper()
	m, source := v.Measure, v.Source
	what := fmt.Sprintf("%v, %d and %v in %q", v, bound, list, impl.FormatGraph(g))
	without := withoutByCuts(t, g, list)
	left, ok := impl.WithoutNodes(g, list)
	wantGraph(t, "WithoutNodes of "+what, left, ok, impl.FormatGraph(without))
	view, ok := impl.ViewAvoiding(g, m, source, list)
	if slices.Contains(list, source) {
		wantNoView(t, "ViewAvoiding of "+what, view, ok)
	} else {
		wantView(t, "ViewAvoiding of "+what, view, ok, viewOf(t, without, m, source))
	}
	values, owners, ok := impl.NearestOf(g, m, list)
	if len(list) == 0 {
		wantNoNearest(t, "NearestOf of "+what, values, owners, ok)
	} else {
		wantValues, wantOwners := nearestByScans(t, g, m, list)
		wantNearest(t, "NearestOf of "+what, values, owners, ok, wantValues, wantOwners)
	}
	within, ok := impl.WithinBound(g, v, bound)
	wantNumbers(t, "WithinBound of "+what, within, ok, withinByScans(v, bound)...)
	critical, ok := impl.CriticalEdges(g, m, source)
	wantEdges(t, "CriticalEdges of "+what, critical, ok, criticalByScans(t, g, m, source)...)
	ranks, ok := impl.RanksOf(g, v)
	wantNumbers(t, "RanksOf of "+what, ranks, ok, ranksByScans(v)...)
	wantBridgesLikeScans(t, g, source)
}

func wantBridgesLikeScans(t *testing.T, g impl.Graph, source int) {
	t.Helper()
	for node := range g.Nodes {
		what := fmt.Sprintf("BridgeNodes from %d to %d in %q", source, node, impl.FormatGraph(g))
		bridges, ok := impl.BridgeNodes(g, source, node)
		if isReached(t, g, source, node) {
			wantNumbers(t, what, bridges, ok, bridgesByScans(t, g, source, node)...)
		} else {
			wantNoNumbers(t, what, bridges, ok)
		}
	}
}

// someBounds are the values of v and measures next to them, and the limits.
func (k kindOfMeasures) someBounds(v impl.View) []int {
	bounds := []int{k.none, k.empty}
	for _, value := range v.Values {
		bounds = append(bounds, value, max(value-1, 0), min(value+1, k.most))
	}
	return bounds
}

func TestDerivedLikeScans(t *testing.T) {
	random := rand.New(rand.NewSource(101))
	for range 20 {
		g := randomGraph(random, 1+random.Intn(impl.MaxNodes), random.Intn(impl.MaxEdges+1), []int{1, 3, impl.MaxWeight}[random.Intn(3)])
		for _, k := range allKinds() {
			for _, v := range k.views(t, random, g) {
				bounds := k.someBounds(v)
				wantDerivedLikeScans(t, g, v, bounds[random.Intn(len(bounds))], randomNodes(random, g, random.Intn(g.Nodes+1)))
			}
		}
	}
}

// wantNothingWithout checks the functions that have a graph, a kind and a source, of which one is not valid.
func wantNothingWithout(t *testing.T, what string, g impl.Graph, m int, source int) {
	t.Helper()
	for _, list := range [][]int{nil, {1}, {2, 1}} {
		view, ok := impl.ViewAvoiding(g, m, source, list)
		wantNoView(t, what+": ViewAvoiding", view, ok)
	}
	for _, list := range [][]int{{source}, {source, 1}, {1, source}, {2, 1, source}} {
		values, owners, ok := impl.NearestOf(g, m, list)
		wantNoNearest(t, what+": NearestOf", values, owners, ok)
	}
	edges, ok := impl.CriticalEdges(g, m, source)
	wantNoEdges(t, what+": CriticalEdges", edges, ok)
}

func TestDerivedOfInvalidArguments(t *testing.T) {
	checkInvalidStarts(t, wantNothingWithout)
	wantNothingWithout(t, "one past the last node", greatestGraph(), impl.MeasureReach, impl.MaxNodes)
	for name, g := range invalidGraphs() {
		for _, list := range [][]int{nil, {0}, {1}, {0, 1}, {2, 1, 0}, {-1}, {0, 0}, {12, 13}} {
			left, ok := impl.WithoutNodes(g, list)
			wantNoGraph(t, name+": WithoutNodes", left, ok)
		}
		for _, ends := range [][2]int{{0, 0}, {0, 1}, {1, 0}, {0, 2}, {-1, -1}, {12, 12}, {0, math.MaxInt}} {
			bridges, ok := impl.BridgeNodes(g, ends[0], ends[1])
			wantNoNumbers(t, name+": BridgeNodes", bridges, ok)
		}
	}
}

func TestDerivedOfInvalidLists(t *testing.T) {
	for _, text := range []string{"3", "3 0>1=5 1>2=7", "3 0>1=5 1>0=5 1>2=7 2>1=7"} {
		g := graphOf(t, text)
		for _, list := range invalidLists() {
			what := fmt.Sprintf("%d nodes from %v in %q", len(list), list[:min(len(list), 5)], text)
			left, ok := impl.WithoutNodes(g, list)
			wantNoGraph(t, what+": WithoutNodes", left, ok)
			for _, k := range allKinds() {
				for source := range 3 {
					view, ok := impl.ViewAvoiding(g, k.m, source, list)
					wantNoView(t, what+": ViewAvoiding", view, ok)
				}
				values, owners, ok := impl.NearestOf(g, k.m, list)
				wantNoNearest(t, what+": NearestOf", values, owners, ok)
			}
		}
		for _, k := range allKinds() {
			for _, empty := range [][]int{nil, {}} {
				values, owners, ok := impl.NearestOf(g, k.m, empty)
				wantNoNearest(t, k.name+": no sources", values, owners, ok)
			}
		}
	}
}

func TestBridgesOfInvalidNodes(t *testing.T) {
	for _, text := range []string{"1", "3", "3 0>1=5 1>0=5 1>2=7 2>1=7", "12 0>1=5"} {
		g := graphOf(t, text)
		for _, bad := range []int{-1, g.Nodes, 12, 13, math.MinInt, math.MaxInt} {
			for _, ends := range [][2]int{{bad, 0}, {0, bad}, {bad, bad}} {
				got, ok := impl.BridgeNodes(g, ends[0], ends[1])
				wantNoNumbers(t, fmt.Sprintf("BridgeNodes from %d to %d in %q", ends[0], ends[1], text), got, ok)
			}
		}
	}
}

// wantNoDerivedView checks the functions that have a view.
func wantNoDerivedView(t *testing.T, what string, g impl.Graph, v impl.View) {
	t.Helper()
	for _, bound := range []int{0, 1, 5, impl.MaxMeasure} {
		within, ok := impl.WithinBound(g, v, bound)
		wantNoNumbers(t, what+": WithinBound", within, ok)
	}
	ranks, ok := impl.RanksOf(g, v)
	wantNoNumbers(t, what+": RanksOf", ranks, ok)
}

func TestDerivedOfInvalidViews(t *testing.T) {
	for _, text := range []string{"3", "3 0>1=5 1>2=7"} {
		for name, v := range invalidViews() {
			wantNoDerivedView(t, name, graphOf(t, text), v)
		}
	}
	for name, g := range invalidGraphs() {
		for _, k := range allKinds() {
			for _, count := range []int{1, 3, impl.MaxNodes, impl.MaxNodes + 1} {
				wantNoDerivedView(t, k.name+" of "+name, g, startOf(k, count, 0))
			}
		}
		wantNoDerivedView(t, name, g, impl.View{Measure: 1})
	}
}

func TestDerivedAtLimits(t *testing.T) {
	last := impl.MaxNodes - 1
	long, full := row(impl.MaxNodes, impl.MaxWeight), greatestGraph()
	random := rand.New(rand.NewSource(102))
	for _, k := range allKinds() {
		for _, g := range []impl.Graph{long, full, ring(impl.MaxNodes, impl.MaxWeight)} {
			v := viewOf(t, g, k.m, last)
			for _, bound := range []int{k.none, k.empty, v.Values[0]} {
				wantDerivedLikeScans(t, g, v, bound, randomNodes(random, g, impl.MaxNodes))
				wantDerivedLikeScans(t, g, v, bound, firstNodes(last))
			}
		}
		all, ok := impl.CriticalEdges(long, k.m, 0)
		wantEdges(t, k.name+": the critical edges of the longest row", all, ok, long.Edges...)
		more := impl.Graph{Nodes: impl.MaxNodes, Edges: firstEdges(impl.MaxNodes, impl.MaxEdges+1)}
		wantNothingWithout(t, k.name+": an edge too many", more, k.m, 0)
		wantNoDerivedView(t, k.name+": an edge too many", more, viewOf(t, full, k.m, 0))
		wantNothingWithout(t, k.name+": a node too many", row(impl.MaxNodes+1, 1), k.m, 0)
		wantNoDerivedView(t, k.name+": a node too many", row(impl.MaxNodes+1, 1), startOf(k, impl.MaxNodes+1, 0))
		heavy := impl.Graph{Nodes: 3, Edges: []impl.Edge{{From: 0, To: 1, Weight: impl.MaxWeight + 1}}}
		wantNothingWithout(t, k.name+": too great a weight", heavy, k.m, 0)
		wantNoDerivedView(t, k.name+": too great a weight", heavy, startOf(k, 3, 0))
		values, owners, ok := impl.NearestOf(full, k.m, append(firstNodes(impl.MaxNodes), 0))
		wantNoNearest(t, k.name+": more sources than nodes", values, owners, ok)
	}
	bridges, ok := impl.BridgeNodes(long, 0, last)
	wantNumbers(t, "the bridges of the longest row", bridges, ok, firstNodes(last)[1:]...)
	none, ok := impl.WithoutNodes(full, firstNodes(impl.MaxNodes))
	wantGraph(t, "the greatest graph without all nodes", none, ok, "12")
	same, ok := impl.WithoutNodes(full, nil)
	wantGraph(t, "the greatest graph without no nodes", same, ok, impl.FormatGraph(full))
	bad, ok := impl.WithoutNodes(full, append(firstNodes(impl.MaxNodes), impl.MaxNodes))
	wantNoGraph(t, "the greatest graph without one past the last node", bad, ok)
	bad, ok = impl.WithoutNodes(full, append(firstNodes(impl.MaxNodes), last))
	wantNoGraph(t, "the greatest graph without the last node twice", bad, ok)
}

// derivedResults are all results of one view, as numbers and as edges.
type derivedResults struct {
	numbers [][]int
	edges   [][]impl.Edge
}

func derivedResultsOf(g impl.Graph, v impl.View, sources []int, avoided []int) derivedResults {
	left, _ := impl.WithoutNodes(g, avoided)
	same, _ := impl.WithoutNodes(g, nil)
	critical, _ := impl.CriticalEdges(g, v.Measure, v.Source)
	view, _ := impl.ViewAvoiding(g, v.Measure, v.Source, avoided)
	again, _ := impl.ViewAvoiding(g, v.Measure, v.Source, nil)
	values, owners, _ := impl.NearestOf(g, v.Measure, sources)
	one, owner, _ := impl.NearestOf(g, v.Measure, sources[:1])
	none, _ := impl.NoPath(v.Measure)
	within, _ := impl.WithinBound(g, v, none)
	bridges, _ := impl.BridgeNodes(row(g.Nodes, 1), 0, g.Nodes-1)
	ranks, _ := impl.RanksOf(g, v)
	return derivedResults{
		numbers: [][]int{view.Values, again.Values, values, owners, one, owner, within, bridges, ranks},
		edges:   [][]impl.Edge{left.Edges, same.Edges, critical},
	}
}

func TestDerivedArgumentsAreKept(t *testing.T) {
	for _, k := range allKinds() {
		// What is behind the lengths tells whether a function writes there.
		all := firstEdges(4, 12)
		g := impl.Graph{Nodes: 4, Edges: all[:9]}
		values := append(viewOf(t, g, k.m, 0).Values, 7, 7, 7)
		sources, avoided := nodes(2, 0, 3, 9, 9, 9), nodes(3, 1, 9, 9, 9)
		v := impl.View{Measure: k.m, Values: values[:4]}
		beforeValues := slices.Clone(values)
		got, copies := derivedResultsOf(g, v, sources[:3], avoided[:2]), derivedResultsOf(g, v, sources[:3], avoided[:2])
		for i, numbers := range got.numbers {
			if len(numbers) == 0 || !slices.Equal(numbers, copies.numbers[i]) {
				t.Errorf("%s: the numbers %d are empty, or changed with another result, from %v to %v", k.name, i, copies.numbers[i], numbers)
			}
			overwrite(impl.Kept{Parents: numbers})
		}
		for i, edges := range got.edges {
			// Which edges are critical depends on the kind, and there can be none.
			if i < 2 && len(edges) == 0 || !slices.Equal(edges, copies.edges[i]) {
				t.Errorf("%s: the edges %d are empty, or changed with another result, from %v to %v", k.name, i, copies.edges[i], edges)
			}
			overwrite(impl.Kept{Graph: impl.Graph{Edges: edges}})
		}
		if !slices.Equal(values, beforeValues) || !slices.Equal(sources, nodes(2, 0, 3, 9, 9, 9)) || !slices.Equal(avoided, nodes(3, 1, 9, 9, 9)) || !slices.Equal(all, firstEdges(4, 12)) {
			t.Errorf("%s: the arguments became %v, %v, %v and %v", k.name, values, sources, avoided, all)
		}
		again := derivedResultsOf(g, v, sources[:3], avoided[:2])
		for i, numbers := range again.numbers {
			wantNumbers(t, fmt.Sprintf("%s: the numbers %d behind changes of results", k.name, i), numbers, true, copies.numbers[i]...)
		}
		for i, edges := range again.edges {
			wantEdges(t, fmt.Sprintf("%s: the edges %d behind changes of results", k.name, i), edges, true, copies.edges[i]...)
		}
	}
}

// bestAvoiding tries all paths from source that have no node of list.
func (k kindOfMeasures) bestAvoiding(t *testing.T, g impl.Graph, source int, list []int) []int {
	t.Helper()
	var values []int
	allowed := func(nodes []int) bool {
		return throughNoNodeTwice(nodes) && !slices.Contains(list, nodes[len(nodes)-1])
	}
	for _, found := range measuresOfWalks(t, g, k.m, source, allowed) {
		values = append(values, k.bestOf(found))
	}
	return values
}

// nodesOfAllPaths are, for each node, the nodes that all paths from source to it have in common, or nil if there are no paths.
func nodesOfAllPaths(t *testing.T, g impl.Graph, source int) [][]int {
	t.Helper()
	common := make([][]int, g.Nodes)
	measuresOfWalks(t, g, impl.MeasureReach, source, func(path []int) bool {
		if !throughNoNodeTwice(path) {
			return false
		}
		end := path[len(path)-1]
		if common[end] == nil {
			common[end] = slices.Sorted(slices.Values(path))
		}
		common[end] = slices.DeleteFunc(common[end], func(node int) bool { return !slices.Contains(path, node) })
		return true
	})
	return common
}

// wantBridgesOfAllPaths checks that bridges are the nodes between both ends that all paths have in common.
func wantBridgesOfAllPaths(t *testing.T, g impl.Graph, source int) {
	t.Helper()
	for node, common := range nodesOfAllPaths(t, g, source) {
		what := fmt.Sprintf("BridgeNodes from %d to %d in %q", source, node, impl.FormatGraph(g))
		bridges, ok := impl.BridgeNodes(g, source, node)
		if common == nil {
			wantNoNumbers(t, what, bridges, ok)
			continue
		}
		between := slices.DeleteFunc(common, func(other int) bool { return other == source || other == node })
		wantNumbers(t, what, bridges, ok, between...)
	}
}

// wantNearestByPaths checks the nearest sources against all paths from each of them.
func (k kindOfMeasures) wantNearestByPaths(t *testing.T, g impl.Graph, sources []int) {
	t.Helper()
	best, owners := slices.Repeat([]int{k.none}, g.Nodes), slices.Repeat([]int{-1}, g.Nodes)
	for _, source := range slices.Backward(sources) {
		for node, value := range k.bestByPaths(t, g, source) {
			if value != k.none && !impl.IsBetter(k.m, best[node], value) {
				best[node], owners[node] = value, source
			}
		}
	}
	got, by, ok := impl.NearestOf(g, k.m, sources)
	wantNearest(t, fmt.Sprintf("%s: NearestOf %v in %q", k.name, sources, impl.FormatGraph(g)), got, by, ok, best, owners)
}

// wantCriticalByPaths checks the critical edges against all paths in the graphs without one edge.
func (k kindOfMeasures) wantCriticalByPaths(t *testing.T, g impl.Graph, source int) {
	t.Helper()
	right := k.bestByPaths(t, g, source)
	critical := slices.DeleteFunc(slices.Clone(g.Edges), func(e impl.Edge) bool {
		return slices.Equal(k.bestByPaths(t, withoutEdge(t, g, e), source), right)
	})
	got, ok := impl.CriticalEdges(g, k.m, source)
	wantEdges(t, fmt.Sprintf("%s: CriticalEdges from %d in %q", k.name, source, impl.FormatGraph(g)), got, ok, critical...)
}

// wantAvoidingByPaths checks a view without some nodes, of which source is none, against all paths around them.
func (k kindOfMeasures) wantAvoidingByPaths(t *testing.T, g impl.Graph, source int, list []int) {
	t.Helper()
	what := fmt.Sprintf("%s: from %d in %q without %v", k.name, source, impl.FormatGraph(g), list)
	want := impl.View{Measure: k.m, Source: source, Values: k.bestAvoiding(t, g, source, list)}
	got, ok := impl.ViewAvoiding(g, k.m, source, list)
	wantView(t, what, got, ok, want)
	left, fine := impl.WithoutNodes(g, list)
	other, ok := impl.ViewOf(left, k.m, source)
	wantView(t, what+", as a view of another graph", other, ok && fine, want)
}

// wantRightWithinBounds checks the nodes within bounds of a right view, and their ranks, against all paths.
func (k kindOfMeasures) wantRightWithinBounds(t *testing.T, g impl.Graph, source int) {
	t.Helper()
	right := impl.View{Measure: k.m, Source: source, Values: k.bestByPaths(t, g, source)}
	what := fmt.Sprintf("%s: %v in %q", k.name, right, impl.FormatGraph(g))
	ranks, ok := impl.RanksOf(g, right)
	wantNumbers(t, what+": RanksOf", ranks, ok, ranksByScans(right)...)
	for _, bound := range k.someBounds(right) {
		within, ok := impl.WithinBound(g, right, bound)
		wantNumbers(t, fmt.Sprintf("%s: WithinBound %d", what, bound), within, ok, withinByScans(right, bound)...)
		// The nodes within a bound are the first ones of the ranks.
		if sorted := slices.Sorted(slices.Values(ranks[:len(within)])); !slices.Equal(sorted, within) {
			t.Errorf("%s: the nodes within %d are %v, but the ranks are %v", what, bound, within, ranks)
		}
	}
}

// TestPromise10 checks derived views of random graphs against all paths in the graphs of which they are views.
func TestPromise10(t *testing.T) {
	random := rand.New(rand.NewSource(1010))
	for range 40 {
		count := 1 + random.Intn(8)
		g := randomGraph(random, count, random.Intn(min(3*count, impl.MaxEdges)), []int{1, 3, 30, impl.MaxWeight}[random.Intn(4)])
		for _, k := range allKinds() {
			list := randomNodes(random, g, g.Nodes)
			source := list[0]
			k.wantNearestByPaths(t, g, list[:1+random.Intn(g.Nodes)])
			k.wantAvoidingByPaths(t, g, source, list[1:1+random.Intn(g.Nodes)])
			k.wantCriticalByPaths(t, g, source)
			k.wantRightWithinBounds(t, g, source)
			wantBridgesOfAllPaths(t, g, source)
		}
	}
}

// TestPromise10OfBounds checks that the nodes within the bound of a width or of a peak are those that are reached in the graph of the edges within the bound.
func TestPromise10OfBounds(t *testing.T) {
	random := rand.New(rand.NewSource(1011))
	for range 100 {
		g := randomGraph(random, 1+random.Intn(impl.MaxNodes), random.Intn(impl.MaxEdges+1), 6)
		source := random.Intn(g.Nodes)
		for bound := 1; bound <= 7; bound++ {
			for _, m := range []int{impl.MeasureWidth, impl.MeasurePeak} {
				edges := slices.DeleteFunc(slices.Clone(g.Edges), func(e impl.Edge) bool { return impl.IsBetter(m, bound, e.Weight) })
				other := impl.Graph{Nodes: g.Nodes, Edges: edges}
				got, ok := impl.WithinBound(g, viewOf(t, g, m, source), bound)
				wantNumbers(t, fmt.Sprintf("the nodes of the kind %d within %d from %d in %q", m, bound, source, impl.FormatGraph(g)), got, ok, impl.ReachedNodes(other, viewOf(t, other, m, source))...)
			}
		}
	}
}

// TestPromise10InSmallGraphs has all graphs of three nodes with weights up to 2, with all lists of different nodes.
func TestPromise10InSmallGraphs(t *testing.T) {
	var lists [][]int
	for count := 1; count <= 3; count++ {
		for _, list := range allLists(count, 0, 2) {
			if _, ok := impl.WithoutNodes(impl.Graph{Nodes: 3}, list); ok {
				lists = append(lists, list)
			}
		}
	}
	if len(lists) != 3+6+6 {
		t.Fatalf("%v are lists of different nodes", lists)
	}
	for _, g := range allGraphs(3, firstEdges(3, 6), 2) {
		wantBridgesOfAllPaths(t, g, 0)
		for _, k := range allKinds() {
			k.wantCriticalByPaths(t, g, 0)
			k.wantRightWithinBounds(t, g, 0)
			for _, list := range lists {
				k.wantNearestByPaths(t, g, list)
				if !slices.Contains(list, 0) {
					k.wantAvoidingByPaths(t, g, 0, list)
				}
			}
		}
	}
}
