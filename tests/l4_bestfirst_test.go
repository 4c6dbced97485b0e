package tests

import (
	"fmt"
	"math"
	"math/rand"
	"slices"
	"testing"

	"loop.example/graphviews/impl"
)

func sameSettled(a impl.Settled, b impl.Settled) bool {
	return slices.Equal(a.Order, b.Order) && slices.Equal(a.Parents, b.Parents) && slices.Equal(a.Values, b.Values) && a.Looks == b.Looks
}

func wantSettled(t *testing.T, what string, got impl.Settled, ok bool, want impl.Settled) {
	t.Helper()
	if !ok || !sameSettled(got, want) {
		t.Errorf("%s = %v, %v, want %v, true", what, got, ok, want)
	}
}

func wantNothingSettled(t *testing.T, what string, got impl.Settled, ok bool) {
	t.Helper()
	if ok || !sameSettled(got, impl.Settled{}) {
		t.Errorf("%s = %v, %v, want the zero value, false", what, got, ok)
	}
}

func wantNumbers(t *testing.T, what string, got []int, ok bool, want ...int) {
	t.Helper()
	if !ok || !slices.Equal(got, want) {
		t.Errorf("%s = %v, %v, want %v, true", what, got, ok, want)
	}
}

func wantNoNumbers(t *testing.T, what string, got []int, ok bool) {
	t.Helper()
	if ok || len(got) != 0 {
		t.Errorf("%s = %v, %v, want no numbers, false", what, got, ok)
	}
}

func wantMiddle(t *testing.T, what string, value int, node int, ok bool, wantValue int, wantNode int) {
	t.Helper()
	if !ok || value != wantValue || node != wantNode {
		t.Errorf("%s = %d, %d, %v, want %d, %d, true", what, value, node, ok, wantValue, wantNode)
	}
}

func wantNoMiddle(t *testing.T, what string, value int, node int, ok bool) {
	t.Helper()
	if ok || value != 0 || node != 0 {
		t.Errorf("%s = %d, %d, %v, want 0, 0, false", what, value, node, ok)
	}
}

// bestFirst fails the test if BestFirst returns false.
func bestFirst(t *testing.T, g impl.Graph, m int, source int) impl.Settled {
	t.Helper()
	s, ok := impl.BestFirst(g, m, source)
	if !ok {
		t.Fatalf("BestFirst of %q of the kind %d from %d returns false", impl.FormatGraph(g), m, source)
	}
	return s
}

func TestBestFirstExample(t *testing.T) {
	got, ok := impl.BestFirst(graphOf(t, "3 0>1=5 0>2=3 2>1=1"), impl.MeasureLength, 0)
	wantSettled(t, "the example", got, ok, impl.Settled{Order: []int{0, 2, 1}, Parents: []int{-1, 2, 0}, Values: []int{0, 4, 3}, Looks: 3})
	path, ok := impl.PathTo(got, 0, 1)
	wantNumbers(t, "the path to 1", path, ok, 0, 2, 1)
}

// searchOfEachKind is a graph with what BestFirst returns for each kind.
type searchOfEachKind struct {
	text   string
	source int
	want   [5]impl.Settled
}

func searchesOfEachKind() []searchOfEachKind {
	return []searchOfEachKind{
		// The values of 2 and 3 are improved before they are settled, that of 3 twice, for length and peak.
		{"4 0>1=3 0>2=5 0>3=20 1>2=1 1>3=10 2>3=2", 0, [5]impl.Settled{
			{Order: []int{0, 1, 2, 3}, Parents: []int{-1, 0, 1, 2}, Values: []int{0, 3, 4, 6}, Looks: 6},
			{Order: []int{0, 3, 2, 1}, Parents: []int{-1, 0, 0, 0}, Values: []int{100000, 3, 5, 20}, Looks: 3},
			{Order: []int{0, 1, 2, 3}, Parents: []int{-1, 0, 1, 2}, Values: []int{0, 3, 3, 3}, Looks: 6},
			{Order: []int{0, 1, 2, 3}, Parents: []int{-1, 0, 0, 0}, Values: []int{1, 1, 1, 1}, Looks: 6},
			{Order: []int{0, 1, 2, 3}, Parents: []int{-1, 0, 0, 0}, Values: []int{0, 1, 1, 1}, Looks: 6},
		}},
		// Nodes with the same value; a value that is as good again does not change the parent.
		{"5 0>3=2 0>4=2 3>1=2 4>1=2 4>2=2", 0, [5]impl.Settled{
			{Order: []int{0, 3, 4, 1, 2}, Parents: []int{-1, 3, 4, 0, 0}, Values: []int{0, 4, 4, 2, 2}, Looks: 5},
			{Order: []int{0, 3, 1, 4, 2}, Parents: []int{-1, 3, 4, 0, 0}, Values: []int{100000, 2, 2, 2, 2}, Looks: 4},
			{Order: []int{0, 3, 1, 4, 2}, Parents: []int{-1, 3, 4, 0, 0}, Values: []int{0, 2, 2, 2, 2}, Looks: 4},
			{Order: []int{0, 3, 1, 4, 2}, Parents: []int{-1, 3, 4, 0, 0}, Values: []int{1, 1, 1, 1, 1}, Looks: 4},
			{Order: []int{0, 3, 4, 1, 2}, Parents: []int{-1, 3, 4, 0, 0}, Values: []int{0, 2, 2, 1, 1}, Looks: 5},
		}},
		// Nodes that are not reached, and edges that lead back to a settled node.
		{"5 0>1=3 1>0=3 2>0=1 3>4=2 4>3=2", 0, [5]impl.Settled{
			{Order: []int{0, 1}, Parents: []int{-1, 0, -1, -1, -1}, Values: []int{0, 3, 100000, 100000, 100000}, Looks: 1},
			{Order: []int{0, 1}, Parents: []int{-1, 0, -1, -1, -1}, Values: []int{100000, 3, 0, 0, 0}, Looks: 1},
			{Order: []int{0, 1}, Parents: []int{-1, 0, -1, -1, -1}, Values: []int{0, 3, 100000, 100000, 100000}, Looks: 1},
			{Order: []int{0, 1}, Parents: []int{-1, 0, -1, -1, -1}, Values: []int{1, 1, 0, 0, 0}, Looks: 1},
			{Order: []int{0, 1}, Parents: []int{-1, 0, -1, -1, -1}, Values: []int{0, 1, 100000, 100000, 100000}, Looks: 1},
		}},
		// The source has the greatest number, and its edges lead to the others in descending order of goodness.
		{"4 1>0=1 2>1=1 3>0=9 3>1=6 3>2=2", 3, [5]impl.Settled{
			{Order: []int{3, 2, 1, 0}, Parents: []int{1, 2, 3, -1}, Values: []int{4, 3, 2, 0}, Looks: 5},
			{Order: []int{3, 0, 1, 2}, Parents: []int{3, 3, 3, -1}, Values: []int{9, 6, 2, 100000}, Looks: 3},
			{Order: []int{3, 2, 1, 0}, Parents: []int{1, 2, 3, -1}, Values: []int{2, 2, 2, 0}, Looks: 5},
			{Order: []int{3, 0, 1, 2}, Parents: []int{3, 3, 3, -1}, Values: []int{1, 1, 1, 1}, Looks: 3},
			{Order: []int{3, 0, 1, 2}, Parents: []int{3, 3, 3, -1}, Values: []int{1, 1, 1, 0}, Looks: 3},
		}},
		{"1", 0, [5]impl.Settled{
			{Order: []int{0}, Parents: []int{-1}, Values: []int{0}},
			{Order: []int{0}, Parents: []int{-1}, Values: []int{100000}},
			{Order: []int{0}, Parents: []int{-1}, Values: []int{0}},
			{Order: []int{0}, Parents: []int{-1}, Values: []int{1}},
			{Order: []int{0}, Parents: []int{-1}, Values: []int{0}},
		}},
		{"3 0>1=5 2>1=5", 1, [5]impl.Settled{
			{Order: []int{1}, Parents: []int{-1, -1, -1}, Values: []int{100000, 0, 100000}},
			{Order: []int{1}, Parents: []int{-1, -1, -1}, Values: []int{0, 100000, 0}},
			{Order: []int{1}, Parents: []int{-1, -1, -1}, Values: []int{100000, 0, 100000}},
			{Order: []int{1}, Parents: []int{-1, -1, -1}, Values: []int{0, 1, 0}},
			{Order: []int{1}, Parents: []int{-1, -1, -1}, Values: []int{100000, 0, 100000}},
		}},
	}
}

func TestBestFirstOfEachKind(t *testing.T) {
	for _, c := range searchesOfEachKind() {
		for i, k := range allKinds() {
			got, ok := impl.BestFirst(graphOf(t, c.text), k.m, c.source)
			wantSettled(t, fmt.Sprintf("%s in %q from %d", k.name, c.text, c.source), got, ok, c.want[i])
		}
	}
}

// TestNodesWithTheSameValue has all nodes but the source at the same value, with numbers of one digit and of two.
func TestNodesWithTheSameValue(t *testing.T) {
	for source := range impl.MaxNodes {
		star := impl.Graph{Nodes: impl.MaxNodes}
		order := []int{source}
		for node := range impl.MaxNodes {
			if node != source {
				star.Edges = append(star.Edges, impl.Edge{From: source, To: node, Weight: 7})
				order = append(order, node)
			}
		}
		for _, k := range allKinds() {
			got := bestFirst(t, star, k.m, source)
			if !slices.Equal(got.Order, order) || got.Looks != impl.MaxNodes-1 {
				t.Errorf("%s: a star around %d is settled in the order %v with %d looks", k.name, source, got.Order, got.Looks)
			}
		}
	}
}

func TestStopAt(t *testing.T) {
	const text = "4 0>1=3 0>2=5 0>3=20 1>2=1 1>3=10 2>3=2"
	cases := []struct {
		m      int
		target int
		want   impl.Settled
	}{
		{impl.MeasureLength, 0, impl.Settled{Order: []int{0}, Parents: []int{-1, -1, -1, -1}, Values: []int{0, 100000, 100000, 100000}}},
		{impl.MeasureLength, 1, impl.Settled{Order: []int{0, 1}, Parents: []int{-1, 0, 0, 0}, Values: []int{0, 3, 5, 20}, Looks: 3}},
		{impl.MeasureLength, 2, impl.Settled{Order: []int{0, 1, 2}, Parents: []int{-1, 0, 1, 1}, Values: []int{0, 3, 4, 13}, Looks: 5}},
		{impl.MeasureLength, 3, impl.Settled{Order: []int{0, 1, 2, 3}, Parents: []int{-1, 0, 1, 2}, Values: []int{0, 3, 4, 6}, Looks: 6}},
		{impl.MeasureWidth, 0, impl.Settled{Order: []int{0}, Parents: []int{-1, -1, -1, -1}, Values: []int{100000, 0, 0, 0}}},
		{impl.MeasureWidth, 1, impl.Settled{Order: []int{0, 3, 2, 1}, Parents: []int{-1, 0, 0, 0}, Values: []int{100000, 3, 5, 20}, Looks: 3}},
		{impl.MeasureWidth, 3, impl.Settled{Order: []int{0, 3}, Parents: []int{-1, 0, 0, 0}, Values: []int{100000, 3, 5, 20}, Looks: 3}},
		{impl.MeasurePeak, 2, impl.Settled{Order: []int{0, 1, 2}, Parents: []int{-1, 0, 1, 1}, Values: []int{0, 3, 3, 10}, Looks: 5}},
		{impl.MeasureReach, 2, impl.Settled{Order: []int{0, 1, 2}, Parents: []int{-1, 0, 0, 0}, Values: []int{1, 1, 1, 1}, Looks: 5}},
		{impl.MeasureHops, 1, impl.Settled{Order: []int{0, 1}, Parents: []int{-1, 0, 0, 0}, Values: []int{0, 1, 1, 1}, Looks: 3}},
	}
	for _, c := range cases {
		got, ok := impl.StopAt(graphOf(t, text), c.m, 0, c.target)
		wantSettled(t, fmt.Sprintf("the kind %d, at %d", c.m, c.target), got, ok, c.want)
	}
}

func TestTargetsThatAreNotReached(t *testing.T) {
	g := graphOf(t, "5 0>1=3 1>0=3 2>0=1 3>4=2 4>3=2")
	for _, k := range allKinds() {
		all := bestFirst(t, g, k.m, 0)
		for target := 2; target < 5; target++ {
			what := fmt.Sprintf("%s: the node %d, which is not reached", k.name, target)
			got, ok := impl.StopAt(g, k.m, 0, target)
			wantSettled(t, what, got, ok, all)
			path, ok := impl.PathTo(all, 0, target)
			wantNoNumbers(t, what, path, ok)
			value, node, ok := impl.MeetInMiddle(g, k.m, 0, target)
			wantMiddle(t, what, value, node, ok, k.none, -1)
		}
	}
}

// bestNodeLeft is the best node that is not in order and has a value, or -1.
func (k kindOfMeasures) bestNodeLeft(order []int, values []int) int {
	best := -1
	for node, value := range values {
		if value != k.none && !slices.Contains(order, node) && (best < 0 || impl.IsBetter(k.m, value, values[best])) {
			best = node
		}
	}
	return best
}

// settledByScans does what the document says of BestFirst and StopAt, without a heap.
func (k kindOfMeasures) settledByScans(t *testing.T, g impl.Graph, source int, target int) impl.Settled {
	t.Helper()
	s := impl.Settled{Parents: slices.Repeat([]int{-1}, g.Nodes), Values: startOf(k, g.Nodes, source).Values}
	for node := k.bestNodeLeft(s.Order, s.Values); node >= 0; node = k.bestNodeLeft(s.Order, s.Values) {
		s.Order = append(s.Order, node)
		if node == target {
			break
		}
		for _, e := range g.Edges {
			if e.From != node || slices.Contains(s.Order, e.To) {
				continue
			}
			s.Looks++
			edge, _ := impl.EdgeMeasure(k.m, e.Weight)
			if v := extended(t, k.m, s.Values[node], edge); impl.IsBetter(k.m, v, s.Values[e.To]) {
				s.Values[e.To] = v
				s.Parents[e.To] = node
			}
		}
	}
	return s
}

func TestSearchesLikeScans(t *testing.T) {
	random := rand.New(rand.NewSource(4))
	for range 80 {
		// Small weights give many nodes the same value.
		g := randomGraph(random, 1+random.Intn(impl.MaxNodes), random.Intn(impl.MaxEdges+1), 1+random.Intn(20))
		for _, k := range allKinds() {
			source := random.Intn(g.Nodes)
			what := fmt.Sprintf("%s in %q from %d", k.name, impl.FormatGraph(g), source)
			got, ok := impl.BestFirst(g, k.m, source)
			wantSettled(t, what, got, ok, k.settledByScans(t, g, source, -1))
			for target := range g.Nodes {
				got, ok := impl.StopAt(g, k.m, source, target)
				wantSettled(t, fmt.Sprintf("%s to %d", what, target), got, ok, k.settledByScans(t, g, source, target))
			}
		}
	}
}

func TestSearchesAtLimits(t *testing.T) {
	long := row(impl.MaxNodes, impl.MaxWeight)
	want := map[int]int{impl.MeasureLength: 11 * 999, impl.MeasureWidth: 999, impl.MeasurePeak: 999, impl.MeasureReach: 1, impl.MeasureHops: 11}
	last := impl.MaxNodes - 1
	for _, k := range allKinds() {
		got := bestFirst(t, long, k.m, 0)
		if !slices.Equal(got.Order, []int{0, 1, 2, 3, 4, 5, 6, 7, 8, 9, 10, 11}) || got.Values[last] != want[k.m] || got.Looks != 11 {
			t.Errorf("%s: the longest row is settled as %v", k.name, got)
		}
		path, ok := impl.PathTo(got, 0, last)
		wantNumbers(t, k.name+": the longest path", path, ok, got.Order...)
		weights, ok := impl.PathEdges(long, path)
		wantNumbers(t, k.name+": its weights", weights, ok, repeatedWeight(impl.MaxWeight, 11)...)
		value, node, ok := impl.MeetInMiddle(long, k.m, 0, last)
		wantMiddle(t, k.name+": the middle of the longest row", value, node, ok, want[k.m], 0)
		for _, source := range []int{0, last} {
			got, ok := impl.BestFirst(greatestGraph(), k.m, source)
			wantSettled(t, k.name+": the greatest graph", got, ok, k.settledByScans(t, greatestGraph(), source, -1))
			got, ok = impl.StopAt(greatestGraph(), k.m, source, last)
			wantSettled(t, k.name+": the greatest graph", got, ok, k.settledByScans(t, greatestGraph(), source, last))
		}
		wantNoSearch(t, k.name+": one past the last node", greatestGraph(), k.m, impl.MaxNodes)
		wantNoTarget(t, k.name+": one past the last node", greatestGraph(), k.m, impl.MaxNodes)
	}
}

func wantNoSearch(t *testing.T, what string, g impl.Graph, m int, source int) {
	t.Helper()
	got, ok := impl.BestFirst(g, m, source)
	wantNothingSettled(t, what+": BestFirst", got, ok)
	for _, target := range []int{0, 1, source} {
		got, ok = impl.StopAt(g, m, source, target)
		wantNothingSettled(t, what+": StopAt", got, ok)
		value, node, ok := impl.MeetInMiddle(g, m, source, target)
		wantNoMiddle(t, what+": MeetInMiddle", value, node, ok)
	}
}

func wantNoTarget(t *testing.T, what string, g impl.Graph, m int, target int) {
	t.Helper()
	got, ok := impl.StopAt(g, m, 0, target)
	wantNothingSettled(t, what+": StopAt", got, ok)
	value, node, ok := impl.MeetInMiddle(g, m, 0, target)
	wantNoMiddle(t, what+": MeetInMiddle", value, node, ok)
}

func TestSearchesOfInvalidArguments(t *testing.T) {
	checkInvalidStarts(t, wantNoSearch)
	g := graphOf(t, "3 0>1=5 1>2=7")
	for _, node := range []int{-1, 3, math.MinInt, math.MaxInt} {
		for _, k := range allKinds() {
			wantNoTarget(t, fmt.Sprintf("the target %d", node), g, k.m, node)
		}
	}
}

func TestPathTo(t *testing.T) {
	cases := []struct {
		parents []int
		source  int
		node    int
		want    []int
	}{
		{[]int{-1, 2, 0, -1}, 0, 1, []int{0, 2, 1}},
		{[]int{-1, 2, 0, -1}, 0, 2, []int{0, 2}},
		{[]int{-1, 2, 0, -1}, 0, 0, []int{0}},
		{[]int{-1, 2, 0, -1}, 2, 1, []int{2, 1}},
		{[]int{-1, 2, 0, -1}, 1, 1, []int{1}},
		{[]int{-1, 2, 0, -1}, 3, 3, []int{3}},
		// The path ends where source is reached first, whatever its own parent is.
		{[]int{1, 0}, 0, 1, []int{0, 1}},
		{[]int{1, 0}, 1, 0, []int{1, 0}},
		{[]int{1, 0}, 0, 0, []int{0}},
		{[]int{0}, 0, 0, []int{0}},
		{[]int{99, 0}, 0, 1, []int{0, 1}},
		{[]int{math.MinInt, 0}, 0, 1, []int{0, 1}},
		// All nodes are on the way.
		{[]int{1, 2, 3, 4, -1}, 4, 0, []int{4, 3, 2, 1, 0}},
		{[]int{1, 2, 3, 4, 0}, 4, 0, []int{4, 3, 2, 1, 0}},
		{[]int{1, 2, 3, 4, 0}, 0, 1, []int{0, 4, 3, 2, 1}},
	}
	for _, c := range cases {
		s := impl.Settled{Parents: c.parents}
		got, ok := impl.PathTo(s, c.source, c.node)
		wantNumbers(t, fmt.Sprintf("the path from %d to %d in %v", c.source, c.node, c.parents), got, ok, c.want...)
		// Only Parents count.
		s = impl.Settled{Order: []int{9, 9, -7}, Parents: c.parents, Values: []int{math.MinInt}, Looks: -5}
		got, ok = impl.PathTo(s, c.source, c.node)
		wantNumbers(t, fmt.Sprintf("the path from %d to %d in %v", c.source, c.node, s), got, ok, c.want...)
	}
}

func TestPathsThatReachNoSource(t *testing.T) {
	cases := []struct {
		parents []int
		source  int
		node    int
	}{
		{nil, 0, 0}, {nil, -1, -1}, {[]int{}, 5, 5},
		{[]int{-1, 2, 0, -1}, 0, 3}, {[]int{-1, 2, 0, -1}, 1, 0}, {[]int{-1, 2, 0, -1}, 1, 2},
		{[]int{-1, 2, 0, -1}, 0, -1}, {[]int{-1, 2, 0, -1}, 0, 4}, {[]int{-1, 2, 0, -1}, 0, math.MaxInt}, {[]int{-1, 2, 0, -1}, 0, math.MinInt},
		// Each number on the way has to be an index, source and node as well.
		{[]int{-1, 2, 0, -1}, -1, 0}, {[]int{-1, 2, 0, -1}, -1, 1}, {[]int{-1, 2, 0, -1}, -1, -1}, {[]int{-1, 2, 0, -1}, 4, 4},
		{[]int{7, 0}, 7, 1}, {[]int{1, 2}, 2, 0}, {[]int{math.MaxInt}, math.MaxInt, 0}, {[]int{math.MinInt}, math.MinInt, 0},
		// Parents go round.
		{[]int{1, 0}, 5, 0}, {[]int{-1, 2, 1}, 0, 1}, {[]int{-1, 1}, 0, 1}, {[]int{0, -1}, 1, 0}, {[]int{-1, 2, 3, 4, 2}, 0, 1},
	}
	for _, c := range cases {
		got, ok := impl.PathTo(impl.Settled{Parents: c.parents}, c.source, c.node)
		wantNoNumbers(t, fmt.Sprintf("the path from %d to %d in %v", c.source, c.node, c.parents), got, ok)
	}
}

// TestManyParents has more parents than a graph has nodes.
func TestManyParents(t *testing.T) {
	const count = 5000
	s := impl.Settled{Parents: make([]int, count)}
	want := make([]int, count)
	for node := range count {
		s.Parents[node] = node - 1
		want[node] = node
	}
	got, ok := impl.PathTo(s, 0, count-1)
	wantNumbers(t, "a long path", got, ok, want...)
	s.Parents[0] = count - 1
	got, ok = impl.PathTo(s, count, count-1)
	wantNoNumbers(t, "a long way round", got, ok)
}

func TestPathEdges(t *testing.T) {
	g := graphOf(t, "4 0>1=5 0>2=3 1>0=1 2>1=999")
	cases := []struct {
		path []int
		want []int
	}{
		{[]int{0}, nil}, {[]int{3}, nil},
		{[]int{0, 1}, []int{5}}, {[]int{1, 0}, []int{1}}, {[]int{0, 2, 1}, []int{3, 999}},
		{[]int{0, 1, 0, 2, 1, 0, 1}, []int{5, 1, 3, 999, 1, 5}},
	}
	for _, c := range cases {
		got, ok := impl.PathEdges(g, c.path)
		wantNumbers(t, fmt.Sprintf("the weights along %v", c.path), got, ok, c.want...)
	}
	paths := [][]int{
		nil, {}, {-1}, {4}, {math.MinInt}, {math.MaxInt}, {-1, 0}, {4, 0},
		{1, 2}, {0, 0}, {3, 3}, {0, 1, 1}, {0, 2, 1, 2}, {0, 3}, {3, 0},
		{0, -1}, {0, 4}, {0, math.MinInt}, {0, math.MaxInt}, {0, 1, 4, 0}, {0, -1, 0},
	}
	for _, path := range paths {
		got, ok := impl.PathEdges(g, path)
		wantNoNumbers(t, fmt.Sprintf("the weights along %v", path), got, ok)
	}
	for name, bad := range invalidGraphs() {
		for _, path := range [][]int{nil, {0}, {0, 1}, {1, 2}} {
			got, ok := impl.PathEdges(bad, path)
			wantNoNumbers(t, name+": PathEdges", got, ok)
		}
	}
}

func TestPathEdgesAtLimits(t *testing.T) {
	g := graphOf(t, "2 0>1=999 1>0=1")
	back := slices.Repeat([]int{0, 1}, 26)
	weights := slices.Repeat([]int{999, 1}, 25)
	got, ok := impl.PathEdges(g, back[:51])
	wantNumbers(t, "the weights along 51 nodes", got, ok, weights...)
	got, ok = impl.PathEdges(g, back[:50])
	wantNumbers(t, "the weights along 50 nodes", got, ok, weights[:49]...)
	got, ok = impl.PathEdges(g, back)
	wantNoNumbers(t, "the weights along 52 nodes", got, ok)
	got, ok = impl.PathEdges(g, slices.Repeat(back, 1000))
	wantNoNumbers(t, "the weights along many nodes", got, ok)
	full := greatestGraph()
	for _, e := range full.Edges {
		got, ok := impl.PathEdges(full, []int{e.From, e.To})
		wantNumbers(t, fmt.Sprintf("the edge %v of the greatest graph", e), got, ok, e.Weight)
	}
	got, ok = impl.PathEdges(full, []int{impl.MaxNodes - 1})
	wantNumbers(t, "the last node", got, ok)
	got, ok = impl.PathEdges(full, []int{impl.MaxNodes})
	wantNoNumbers(t, "one past the last node", got, ok)
}

func TestMeetInMiddle(t *testing.T) {
	cases := []struct {
		text   string
		source int
		target int
		values [5]int
		nodes  [5]int
	}{
		{"4 0>1=5 0>2=3 1>0=1 2>1=1", 0, 1, [5]int{4, 5, 3, 1, 1}, [5]int{0, 0, 0, 0, 0}},
		// The first node is in the middle of the path, or at its end.
		{"4 0>3=1 1>2=5 2>0=3", 1, 3, [5]int{9, 1, 5, 1, 3}, [5]int{0, 0, 0, 0, 0}},
		{"4 2>1=1 3>2=1", 3, 1, [5]int{2, 1, 1, 1, 2}, [5]int{1, 1, 1, 1, 1}},
		// The node 0 is on no path, but for width and reach, on a walk that is as good.
		{"4 0>2=9 1>2=5 2>0=9 2>3=4", 1, 3, [5]int{9, 4, 5, 1, 2}, [5]int{1, 0, 1, 0, 1}},
		// The node 0 has a value from both ends, but it is not the best one.
		{"4 0>3=9 1>0=9 1>2=1 2>3=1", 1, 3, [5]int{2, 9, 1, 1, 2}, [5]int{1, 0, 1, 0, 0}},
		// From a node to itself, no edges are the best, or as good as a walk for MeasureReach.
		{"2 0>1=1 1>0=1", 1, 1, [5]int{0, 100000, 0, 1, 0}, [5]int{1, 1, 1, 0, 1}},
		{"1", 0, 0, [5]int{0, 100000, 0, 1, 0}, [5]int{0, 0, 0, 0, 0}},
		// An edge the other way round leads nowhere.
		{"2 0>1=1", 1, 0, [5]int{100000, 0, 100000, 0, 100000}, [5]int{-1, -1, -1, -1, -1}},
		{"3 0>1=1 2>1=1", 0, 2, [5]int{100000, 0, 100000, 0, 100000}, [5]int{-1, -1, -1, -1, -1}},
	}
	for _, c := range cases {
		for i, k := range allKinds() {
			value, node, ok := impl.MeetInMiddle(graphOf(t, c.text), k.m, c.source, c.target)
			wantMiddle(t, fmt.Sprintf("%s in %q from %d to %d", k.name, c.text, c.source, c.target), value, node, ok, c.values[i], c.nodes[i])
		}
	}
}

func TestMiddlesOfViews(t *testing.T) {
	random := rand.New(rand.NewSource(44))
	for range 60 {
		g := randomGraph(random, 1+random.Intn(impl.MaxNodes), random.Intn(impl.MaxEdges+1), 1+random.Intn(30))
		reversed, _ := impl.ReverseGraph(g)
		for _, k := range allKinds() {
			source, target := random.Intn(g.Nodes), random.Intn(g.Nodes)
			from, back := viewOf(t, g, k.m, source), viewOf(t, reversed, k.m, target)
			best, first := k.none, -1
			for node := range g.Nodes {
				if v := extended(t, k.m, from.Values[node], back.Values[node]); impl.IsBetter(k.m, v, best) {
					best, first = v, node
				}
			}
			what := fmt.Sprintf("%s in %q from %d to %d", k.name, impl.FormatGraph(g), source, target)
			value, node, ok := impl.MeetInMiddle(g, k.m, source, target)
			wantMiddle(t, what, value, node, ok, best, first)
			wantValue(t, what, value, ok, from.Values[target])
		}
	}
}

func TestReachedNodes(t *testing.T) {
	g := graphOf(t, "4 0>1=5 1>2=7")
	cases := []struct {
		m      int
		values []int
		want   []int
	}{
		// Values need not be right, also that of the source, which is 0.
		{impl.MeasureLength, []int{0, 99999, 100000, 1}, []int{0, 1, 3}},
		{impl.MeasureLength, []int{100000, 100000, 100000, 0}, []int{3}},
		{impl.MeasureLength, []int{100000, 100000, 100000, 100000}, nil},
		{impl.MeasureWidth, []int{100000, 0, 1, 0}, []int{0, 2}},
		{impl.MeasureWidth, []int{0, 0, 0, 0}, nil},
		{impl.MeasureWidth, []int{0, 100000, 999, 1}, []int{1, 2, 3}},
		{impl.MeasurePeak, []int{0, 99999, 100000, 999}, []int{0, 1, 3}},
		{impl.MeasureReach, []int{1, 0, 1, 0}, []int{0, 2}},
		{impl.MeasureReach, []int{1, 1, 1, 1}, []int{0, 1, 2, 3}},
		{impl.MeasureHops, []int{0, 1, 100000, 99999}, []int{0, 1, 3}},
	}
	for _, c := range cases {
		got := impl.ReachedNodes(g, impl.View{Measure: c.m, Values: c.values})
		wantNumbers(t, fmt.Sprintf("the nodes that %v of the kind %d reaches", c.values, c.m), got, true, c.want...)
	}
	for _, k := range allKinds() {
		got := impl.ReachedNodes(g, viewOf(t, g, k.m, 1))
		wantNumbers(t, k.name+": from 1", got, true, 1, 2)
		got = impl.ReachedNodes(row(impl.MaxNodes, 1), viewOf(t, row(impl.MaxNodes, 1), k.m, 0))
		wantNumbers(t, k.name+": the longest row", got, true, 0, 1, 2, 3, 4, 5, 6, 7, 8, 9, 10, 11)
	}
}

func TestReachedNodesOfInvalidViews(t *testing.T) {
	for name, v := range invalidViews() {
		if got := impl.ReachedNodes(graphOf(t, "3 0>1=5 1>2=7"), v); len(got) != 0 {
			t.Errorf("%s reaches %v", name, got)
		}
	}
	for name, g := range invalidGraphs() {
		for _, k := range allKinds() {
			for _, nodes := range []int{1, 3, impl.MaxNodes, impl.MaxNodes + 1} {
				if got := impl.ReachedNodes(g, startOf(k, nodes, 0)); len(got) != 0 {
					t.Errorf("%s: %s reaches %v", name, k.name, got)
				}
			}
		}
	}
}

func TestSearchArgumentsAreKept(t *testing.T) {
	// What is behind the length tells whether a function writes there.
	all := firstEdges(4, 12)
	g := impl.Graph{Nodes: 4, Edges: all[:9]}
	for _, k := range allKinds() {
		path := []int{0, 1, 2, 3, 3, 3}
		values := append(viewOf(t, g, k.m, 0).Values, 7, 7)
		parents := []int{-1, 0, 1, 2, 5, 5}
		results := map[string][]int{}
		first, _ := impl.BestFirst(g, k.m, 0)
		stopped, _ := impl.StopAt(g, k.m, 0, 3)
		results["Order"], results["Parents"], results["Values"] = first.Order, first.Parents, first.Values
		results["Order of StopAt"], results["Parents of StopAt"], results["Values of StopAt"] = stopped.Order, stopped.Parents, stopped.Values
		results["PathTo"], _ = impl.PathTo(impl.Settled{Parents: parents[:4]}, 0, 3)
		results["PathTo of one node"], _ = impl.PathTo(first, 0, 0)
		results["PathEdges"], _ = impl.PathEdges(g, path[:3])
		results["ReachedNodes"] = impl.ReachedNodes(g, impl.View{Measure: k.m, Values: values[:4]})
		impl.MeetInMiddle(g, k.m, 0, 3)
		before := slices.Clone(values)
		copies := map[string][]int{}
		for name, numbers := range results {
			copies[name] = slices.Clone(numbers)
		}
		for name, numbers := range results {
			if len(numbers) == 0 || !slices.Equal(numbers, copies[name]) {
				t.Errorf("%s: %s is empty, or changed with another result, from %v to %v", k.name, name, copies[name], numbers)
			}
			numbers = numbers[:cap(numbers)]
			for place := range numbers {
				numbers[place] = 77
			}
		}
		if !slices.Equal(path, []int{0, 1, 2, 3, 3, 3}) || !slices.Equal(parents, []int{-1, 0, 1, 2, 5, 5}) || !slices.Equal(values, before) || !slices.Equal(all, firstEdges(4, 12)) {
			t.Errorf("%s: the arguments became %v, %v, %v and %v", k.name, path, parents, values, all)
		}
		again, ok := impl.BestFirst(g, k.m, 0)
		wantSettled(t, k.name+": BestFirst behind a change of a result", again, ok, impl.Settled{Order: copies["Order"], Parents: copies["Parents"], Values: copies["Values"], Looks: first.Looks})
	}
}

// wantRightPath checks that parents lead to a node along a path whose measure is the value of the node.
func wantRightPath(t *testing.T, what string, g impl.Graph, m int, source int, s impl.Settled, node int) {
	t.Helper()
	path, ok := impl.PathTo(s, source, node)
	if !ok || len(path) == 0 || path[0] != source || path[len(path)-1] != node {
		t.Errorf("%s: the path to %d = %v, %v", what, node, path, ok)
		return
	}
	weights, ok := impl.PathEdges(g, path)
	if !ok || len(weights) != len(path)-1 {
		t.Errorf("%s: the weights along %v = %v, %v", what, path, weights, ok)
	}
	v, ok := impl.PathMeasure(m, weights)
	wantValue(t, fmt.Sprintf("%s: the measure of %v", what, path), v, ok, s.Values[node])
}

// TestPromise4 checks that the nodes that are settled, in either way of a search, have the best measures of all paths, in this order.
func TestPromise4(t *testing.T) {
	random := rand.New(rand.NewSource(444))
	for range 60 {
		g := randomGraph(random, 1+random.Intn(impl.MaxNodes), random.Intn(30), 1+random.Intn(impl.MaxWeight))
		for _, k := range allKinds() {
			source := random.Intn(g.Nodes)
			what := fmt.Sprintf("%s: from %d in %q", k.name, source, impl.FormatGraph(g))
			right := k.bestByPaths(t, g, source)
			s := bestFirst(t, g, k.m, source)
			wantNumbers(t, what+": Values", s.Values, true, right...)
			reached := impl.ReachedNodes(g, impl.View{Measure: k.m, Source: source, Values: right})
			wantNumbers(t, what+": the nodes that are settled", slices.Sorted(slices.Values(s.Order)), true, reached...)
			for place, node := range s.Order {
				if place > 0 && impl.IsBetter(k.m, right[node], right[s.Order[place-1]]) {
					t.Errorf("%s: %v are not settled in the order of their values %v", what, s.Order, right)
				}
				wantRightPath(t, what, g, k.m, source, s, node)
				stopped, ok := impl.StopAt(g, k.m, source, node)
				wantNumbers(t, what+": the order in front of a target", stopped.Order, ok, s.Order[:place+1]...)
				for _, settled := range stopped.Order {
					wantValue(t, what+": StopAt", stopped.Values[settled], ok, right[settled])
					wantRightPath(t, what, g, k.m, source, stopped, settled)
				}
			}
		}
	}
}
