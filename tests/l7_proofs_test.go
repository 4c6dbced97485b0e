package tests

import (
	"fmt"
	"math"
	"math/rand"
	"slices"
	"testing"

	"loop.example/graphviews/impl"
)

func wantEnd(t *testing.T, what string, end int, place int, wantEnd int, wantPlace int) {
	t.Helper()
	if end != wantEnd || place != wantPlace {
		t.Errorf("%s: CheckProof = %d, %d, want %d, %d", what, end, place, wantEnd, wantPlace)
	}
}

// wantProved checks that parents prove a view.
func wantProved(t *testing.T, what string, g impl.Graph, v impl.View, parents []int) {
	t.Helper()
	end, place := impl.CheckProof(g, v, parents)
	wantEnd(t, fmt.Sprintf("%s: %v by %v in %q", what, v, parents, impl.FormatGraph(g)), end, place, impl.ProofOk, 0)
}

// proofOf fails the test if there is no proof.
func proofOf(t *testing.T, g impl.Graph, m int, source int) []int {
	t.Helper()
	parents, ok := impl.ProofOf(g, m, source)
	if !ok {
		t.Fatalf("no proof of the view of %q of the kind %d from %d", impl.FormatGraph(g), m, source)
	}
	return parents
}

// fitsByExtend does what the document says of ProofParent at a node.
func fitsByExtend(t *testing.T, g impl.Graph, v impl.View, parents []int, node int) bool {
	t.Helper()
	none, _ := impl.NoPath(v.Measure)
	if node == v.Source || v.Values[node] == none {
		return parents[node] == -1
	}
	weight, there := impl.WeightOf(g, parents[node], node)
	return there && valueByExtend(t, v.Measure, v.Values, impl.Edge{From: parents[node], To: node, Weight: weight}) == v.Values[node]
}

// checkedByScans does what the document says of CheckProof.
func checkedByScans(t *testing.T, g impl.Graph, v impl.View, parents []int) (int, int) {
	t.Helper()
	if !impl.ViewValid(g, v) || len(parents) != g.Nodes {
		return impl.ProofShape, 0
	}
	if empty, _ := impl.EmptyPath(v.Measure); v.Values[v.Source] != empty {
		return impl.ProofSource, v.Source
	}
	if loose := looseByBetterOf(t, g, v); len(loose) > 0 {
		return impl.ProofLoose, loose[0]
	}
	for node := range parents {
		if !fitsByExtend(t, g, v, parents, node) {
			return impl.ProofParent, node
		}
	}
	for node, parent := range parents {
		if parent != -1 && !leadsByScans(parents, node, v.Source) {
			return impl.ProofCycle, node
		}
	}
	return impl.ProofOk, 0
}

// allLists are all lists of count numbers from first to last.
func allLists(count int, first int, last int) [][]int {
	lists := [][]int{nil}
	for range count {
		var longer [][]int
		for _, list := range lists {
			for number := first; number <= last; number++ {
				longer = append(longer, append(slices.Clone(list), number))
			}
		}
		lists = longer
	}
	return lists
}

// allGraphs are the graphs with some of edges, with all weights up to weight.
func allGraphs(nodes int, edges []impl.Edge, weight int) []impl.Graph {
	var graphs []impl.Graph
	for _, weights := range allLists(len(edges), 0, weight) {
		g := impl.Graph{Nodes: nodes}
		for i, e := range edges {
			if weights[i] > 0 {
				g.Edges = append(g.Edges, impl.Edge{From: e.From, To: e.To, Weight: weights[i]})
			}
		}
		graphs = append(graphs, g)
	}
	return graphs
}

// proofsOf are all parents that CheckProof accepts.
func proofsOf(g impl.Graph, v impl.View) [][]int {
	var proofs [][]int
	for _, parents := range allLists(g.Nodes, -1, g.Nodes-1) {
		if end, _ := impl.CheckProof(g, v, parents); end == impl.ProofOk {
			proofs = append(proofs, parents)
		}
	}
	return proofs
}

func TestProofConstants(t *testing.T) {
	got := []int{impl.ProofOk, impl.ProofShape, impl.ProofSource, impl.ProofLoose, impl.ProofParent, impl.ProofCycle}
	wantNumbers(t, "the ends", got, true, 0, 1, 2, 3, 4, 5)
}

func TestProofExample(t *testing.T) {
	g := graphOf(t, "4 0>1=1 0>2=1 1>3=1 2>3=1")
	got, ok := impl.CountBest(g, 0, 3)
	wantValue(t, "the number of paths from 0 to 3", got, ok, 2)
}

// proofCase is a view with parents, and the end of checking it.
type proofCase struct {
	what    string
	text    string
	view    impl.View
	parents []int
	end     int
	place   int
}

func (c proofCase) check(t *testing.T) {
	t.Helper()
	end, place := impl.CheckProof(graphOf(t, c.text), c.view, c.parents)
	wantEnd(t, c.what, end, place, c.end, c.place)
}

func lengths(source int, values ...int) impl.View {
	return impl.View{Measure: impl.MeasureLength, Source: source, Values: values}
}

func widths(source int, values ...int) impl.View {
	return impl.View{Measure: impl.MeasureWidth, Source: source, Values: values}
}

func TestCheckProof(t *testing.T) {
	net := "4 0>1=5 0>2=3 1>3=1 2>1=1"
	right := lengths(0, 0, 4, 3, 5)
	back := "4 1>3=1 2>1=1 3>0=5 3>2=3"
	cases := []proofCase{
		{"one node", "1", lengths(0, 0), []int{-1}, impl.ProofOk, 0},
		{"the right view", net, right, []int{-1, 2, 0, 1}, impl.ProofOk, 0},
		{"another source", back, lengths(3, 5, 4, 3, 0), []int{3, 2, 3, -1}, impl.ProofOk, 0},
		{"nodes that are not reached", "4 0>1=5 2>3=1 3>2=1", lengths(0, 0, 5, 100000, 100000), []int{-1, 0, -1, -1}, impl.ProofOk, 0},
		{"edges to the source", "3 0>1=2 1>0=1 1>2=1 2>0=1", widths(0, 100000, 2, 1), []int{-1, 0, 1}, impl.ProofOk, 0},

		{"no parents", net, right, nil, impl.ProofShape, 0},
		{"a parent too few", net, right, []int{-1, 2, 0}, impl.ProofShape, 0},
		{"a parent too many", net, right, []int{-1, 2, 0, 1, -1}, impl.ProofShape, 0},
		{"a value too few", net, lengths(0, 0, 4, 3), []int{-1, 2, 0, 1}, impl.ProofShape, 0},
		{"a value and a parent too few", net, lengths(0, 0, 4, 3), []int{-1, 2, 0}, impl.ProofShape, 0},
		{"a source that is no node", net, lengths(4, 0, 4, 3, 5), []int{-1, 2, 0, 1}, impl.ProofShape, 0},
		{"the zero value", net, impl.View{}, nil, impl.ProofShape, 0},
		{"shape in front of all others", net, lengths(3, 1, 9, 3, 100001), []int{5, 5, 5, 5}, impl.ProofShape, 0},

		{"the source has 1", net, lengths(0, 1, 4, 3, 5), []int{-1, 2, 0, 1}, impl.ProofSource, 0},
		{"the source is not reached", net, lengths(0, 100000, 100000, 100000, 100000), []int{-1, -1, -1, -1}, impl.ProofSource, 0},
		{"another source has 1", back, lengths(3, 5, 4, 3, 1), []int{3, 2, 3, -1}, impl.ProofSource, 3},
		{"another node is the source", net, lengths(1, 0, 4, 3, 5), []int{-1, 2, 0, 1}, impl.ProofSource, 1},
		{"the width of the source", net, widths(0, 99999, 5, 3, 1), []int{-1, 0, 0, 1}, impl.ProofSource, 0},
		{"the source in front of edges and parents", net, lengths(2, 0, 9, 3, 99), []int{7, 7, 7, 7}, impl.ProofSource, 2},

		{"a loose edge", net, lengths(0, 0, 5, 3, 6), []int{-1, 0, 0, 1}, impl.ProofLoose, 3},
		{"the first one of two loose edges", net, lengths(0, 0, 5, 3, 7), []int{-1, 0, 0, 1}, impl.ProofLoose, 2},
		{"the first one of all edges", net, lengths(0, 0, 100000, 100000, 100000), []int{-1, -1, -1, -1}, impl.ProofLoose, 0},
		{"the first edge, not the first node", net, lengths(0, 0, 5, 4, 6), []int{-1, 0, 0, 1}, impl.ProofLoose, 1},
		{"a wider edge", net, widths(0, 100000, 5, 2, 1), []int{-1, 0, 0, 1}, impl.ProofLoose, 1},
		{"edges in front of parents", net, lengths(0, 0, 4, 3, 6), []int{3, 3, 3, 3}, impl.ProofLoose, 2},

		{"the source has a parent", "3 0>1=2 1>0=1 1>2=1 2>0=1", widths(0, 100000, 2, 1), []int{1, 0, 1}, impl.ProofParent, 0},
		{"the source is its own parent", net, right, []int{0, 2, 0, 1}, impl.ProofParent, 0},
		{"another source has a parent", "3 0>1=1 1>2=1 2>0=1", impl.View{Measure: impl.MeasureReach, Source: 2, Values: []int{1, 1, 1}}, []int{2, 0, 1}, impl.ProofParent, 2},
		{"a node that is not reached has a parent", "4 0>1=5 2>3=1 3>2=1", lengths(0, 0, 5, 100000, 100000), []int{-1, 0, 3, -1}, impl.ProofParent, 2},
		{"the last node has none", net, right, []int{-1, 2, 0, -1}, impl.ProofParent, 3},
		{"a node is its own parent", net, right, []int{-1, 2, 2, 1}, impl.ProofParent, 2},
		{"an edge the other way round", net, right, []int{-1, 2, 0, 0}, impl.ProofParent, 3},
		{"an edge whose value is worse", net, right, []int{-1, 0, 0, 1}, impl.ProofParent, 1},
		{"the first one of two parents that do not fit", net, right, []int{-1, 2, 3, -1}, impl.ProofParent, 2},
		{"all parents", net, right, []int{4, 4, 4, 4}, impl.ProofParent, 0},
		{"parents in front of cycles", "5 1>2=9 2>1=9", widths(0, 100000, 9, 9, 0, 0), []int{-1, 2, 1, -1, 4}, impl.ProofParent, 4},
	}
	for _, parent := range []int{-2, 4, 12, math.MinInt, math.MaxInt} {
		for node := range 4 {
			parents := []int{-1, 2, 0, 1}
			parents[node] = parent
			cases = append(cases, proofCase{fmt.Sprintf("the parent %d of %d", parent, node), net, right, parents, impl.ProofParent, node})
		}
	}
	for _, c := range cases {
		c.check(t)
	}
}

// TestNodesThatHoldEachOtherUp has parents that fit but go round, which is possible only where an edge does not make a value worse.
func TestNodesThatHoldEachOtherUp(t *testing.T) {
	peaks := impl.View{Measure: impl.MeasurePeak, Values: []int{0, 5, 5, 7}}
	reaches := impl.View{Measure: impl.MeasureReach, Values: []int{1, 1, 1, 1}}
	cases := []proofCase{
		{"a cycle that is not reached", "3 1>2=5 2>1=5", widths(0, 100000, 5, 5), []int{-1, 2, 1}, impl.ProofCycle, 1},
		{"the same cycle without values", "3 1>2=5 2>1=5", widths(0, 100000, 0, 0), []int{-1, -1, -1}, impl.ProofOk, 0},
		{"a cycle that is reached, with the right view", "3 0>1=5 0>2=5 1>2=9 2>1=9", widths(0, 100000, 5, 5), []int{-1, 2, 1}, impl.ProofCycle, 1},
		{"a cycle that is reached, with a value too good", "3 0>1=5 1>2=9 2>1=9", widths(0, 100000, 9, 9), []int{-1, 2, 1}, impl.ProofCycle, 1},
		{"a peak", "4 0>1=9 1>2=5 2>1=5 2>3=7", peaks, []int{-1, 2, 1, 2}, impl.ProofCycle, 1},
		{"a peak that is one higher", "4 0>1=9 1>2=5 2>1=5 2>3=7", withValues(peaks, 0, 6, 6, 7), []int{-1, 2, 1, 2}, impl.ProofCycle, 1},
		{"a peak that is one lower", "4 0>1=9 1>2=5 2>1=5 2>3=7", withValues(peaks, 0, 4, 4, 7), []int{-1, 2, 1, 2}, impl.ProofParent, 1},
		{"a reach", "4 1>2=5 2>1=5 2>3=7", reaches, []int{-1, 2, 1, 2}, impl.ProofCycle, 1},
		{"three nodes", "4 1>2=1 2>3=1 3>1=1", reaches, []int{-1, 3, 1, 2}, impl.ProofCycle, 1},
		{"the first cycle is not at the first node", "4 0>1=9 2>3=5 3>2=5", widths(0, 100000, 9, 5, 5), []int{-1, 0, 3, 2}, impl.ProofCycle, 2},
		{"the first node is only below the cycle", "4 2>1=4 2>3=9 3>2=9", widths(0, 100000, 4, 9, 9), []int{-1, 2, 3, 2}, impl.ProofCycle, 1},
		{"nodes below each other below a cycle", "6 2>1=1 3>2=1 4>3=1 4>5=1 5>4=1", withValues(reaches, 1, 1, 1, 1, 1, 1), []int{-1, 2, 3, 4, 5, 4}, impl.ProofCycle, 1},
		{"two cycles", "6 0>5=1 1>3=1 2>4=1 3>1=1 4>2=1", withValues(reaches, 1, 1, 1, 1, 1, 1), []int{-1, 3, 4, 1, 2, 0}, impl.ProofCycle, 1},
		{"the source is the last node", "4 0>1=1 1>0=1 3>2=1", impl.View{Measure: impl.MeasureReach, Source: 3, Values: []int{1, 1, 1, 1}}, []int{1, 0, 3, -1}, impl.ProofCycle, 0},
		{"parents of a cycle around the source", "4 0>1=1 1>2=1 2>3=1 3>0=1", reaches, []int{-1, 0, 1, 2}, impl.ProofOk, 0},
		// For these kinds, each edge makes a value worse, so that one of the nodes of a cycle does not fit, also where a sum stops at MaxMeasure.
		{"a length", "3 1>2=5 2>1=5", lengths(0, 0, 5, 10), []int{-1, 2, 1}, impl.ProofParent, 1},
		{"a length that is the greatest", "3 1>2=1 2>1=1", lengths(0, 0, 99999, 100000), []int{-1, 2, -1}, impl.ProofParent, 1},
		{"hops", "3 1>2=5 2>1=5", impl.View{Measure: impl.MeasureHops, Values: []int{0, 2, 1}}, []int{-1, 2, 1}, impl.ProofParent, 2},
	}
	for _, c := range cases {
		c.check(t)
	}
	for nodes := 3; nodes <= impl.MaxNodes; nodes++ {
		// A ring of the nodes from 1 on, which no edge from 0 leads to.
		g := impl.Graph{Nodes: nodes}
		parents := []int{-1, nodes - 1}
		for node := 2; node < nodes; node++ {
			g.Edges = append(g.Edges, impl.Edge{From: node - 1, To: node, Weight: impl.MaxWeight})
			parents = append(parents, node-1)
		}
		g.Edges = append(g.Edges, impl.Edge{From: nodes - 1, To: 1, Weight: impl.MaxWeight})
		for _, m := range []int{impl.MeasureWidth, impl.MeasurePeak} {
			empty, _ := impl.EmptyPath(m)
			v := impl.View{Measure: m, Values: append([]int{empty}, slices.Repeat([]int{impl.MaxWeight}, nodes-1)...)}
			end, place := impl.CheckProof(g, v, parents)
			wantEnd(t, fmt.Sprintf("the kind %d: a ring of %d nodes", m, nodes-1), end, place, impl.ProofCycle, 1)
			wantNumbers(t, "the edges of the ring", impl.TightEdges(g, v), true, firstNodes(nodes-1)...)
			fault, ok := impl.FirstFault(g, v)
			wantValue(t, "the first fault of the ring", fault, ok, 1)
		}
	}
}

// TestValuesThatAreTooGood makes one value of the right view better, which no parents prove.
func TestValuesThatAreTooGood(t *testing.T) {
	net := "4 0>1=5 0>2=3 1>3=1 2>1=1"
	cases := []proofCase{
		{"one that no edge gives", net, lengths(0, 0, 4, 3, 4), []int{-1, 2, 0, 1}, impl.ProofParent, 3},
		{"one that makes another one too great", net, lengths(0, 0, 3, 3, 5), []int{-1, 2, 0, 1}, impl.ProofLoose, 2},
		{"several that fit each other", net, lengths(0, 0, 3, 3, 4), []int{-1, 2, 0, 1}, impl.ProofParent, 1},
		{"one without a parent", net, lengths(0, 0, 4, 2, 5), []int{-1, -1, -1, 1}, impl.ProofLoose, 3},
		{"one of a node that is not reached", "2", lengths(0, 0, 99999), []int{-1, -1}, impl.ProofParent, 1},
		{"that of the source at another node", "2", lengths(0, 0, 0), []int{-1, -1}, impl.ProofParent, 1},
		{"nodes that hold each other up", "4 0>1=3 1>2=9 2>1=9 2>3=1", widths(0, 100000, 9, 9, 1), []int{-1, 2, 1, 2}, impl.ProofCycle, 1},
	}
	for _, c := range cases {
		c.check(t)
	}
	random := rand.New(rand.NewSource(70))
	for range 40 {
		g := randomGraph(random, 4, random.Intn(9), 4)
		for _, k := range allKinds() {
			right := viewOf(t, g, k.m, random.Intn(4))
			for node, value := range right.Values {
				for _, better := range append(k.someValues(), 3, 4, 5, 6) {
					bad := withValues(right, slices.Clone(right.Values)...)
					bad.Values[node] = better
					if !impl.IsBetter(k.m, better, value) {
						continue
					}
					if proofs := proofsOf(g, bad); len(proofs) > 0 {
						t.Errorf("%s: %v is too good at %d in %q, but is proved by %v", k.name, bad, node, impl.FormatGraph(g), proofs)
					}
					path, ok := impl.BetterPath(g, bad, node)
					wantNoNumbers(t, k.name+": the path to a node whose value is too good", path, ok)
				}
			}
		}
	}
}

func TestSeveralProofs(t *testing.T) {
	cases := []struct {
		text string
		m    int
		want [][]int
	}{
		{"1", impl.MeasureLength, [][]int{{-1}}},
		{"2 1>0=1", impl.MeasureWidth, [][]int{{-1, -1}}},
		{"4 0>1=1 0>2=1 1>3=1 2>3=1", impl.MeasureLength, [][]int{{-1, 0, 0, 1}, {-1, 0, 0, 2}}},
		{"4 0>1=1 0>2=1 1>3=1 2>3=2", impl.MeasureLength, [][]int{{-1, 0, 0, 1}}},
		{"4 0>1=1 0>2=1 1>3=1 2>3=2", impl.MeasureHops, [][]int{{-1, 0, 0, 1}, {-1, 0, 0, 2}}},
		{"4 0>1=2 0>2=1 1>3=1 2>1=1 2>3=2", impl.MeasureLength, [][]int{{-1, 0, 0, 1}, {-1, 0, 0, 2}, {-1, 2, 0, 1}, {-1, 2, 0, 2}}},
		// Each of the nodes 1 and 2 can be the parent of the other one, but not both.
		{"3 0>1=5 0>2=5 1>2=9 2>1=9", impl.MeasureWidth, [][]int{{-1, 0, 0}, {-1, 0, 1}, {-1, 2, 0}}},
		{"3 0>1=5 0>2=5 1>2=5 2>1=5", impl.MeasurePeak, [][]int{{-1, 0, 0}, {-1, 0, 1}, {-1, 2, 0}}},
		{"3 0>1=5 0>2=5 1>2=6 2>1=5", impl.MeasurePeak, [][]int{{-1, 0, 0}, {-1, 2, 0}}},
		{"4 0>1=1 1>2=1 2>1=1 2>3=1 3>1=1 3>2=1", impl.MeasureReach, [][]int{{-1, 0, 1, 2}}},
		{"4 0>1=1 0>3=1 1>2=1 2>1=1 2>3=1 3>2=1", impl.MeasureReach, [][]int{{-1, 0, 1, 0}, {-1, 0, 1, 2}, {-1, 0, 3, 0}, {-1, 2, 3, 0}}},
	}
	for _, c := range cases {
		g := graphOf(t, c.text)
		got := proofsOf(g, viewOf(t, g, c.m, 0))
		if !slices.EqualFunc(got, c.want, slices.Equal) {
			t.Errorf("the proofs of the kind %d in %q = %v, want %v", c.m, c.text, got, c.want)
		}
	}
	random := rand.New(rand.NewSource(71))
	for range 60 {
		for _, kind := range allKinds() {
			k := kind.randomKept(t, random)
			wantProved(t, "other parents", k.Graph, k.View, k.Parents)
		}
	}
}

func TestProofOf(t *testing.T) {
	for _, c := range searchesOfEachKind() {
		g := graphOf(t, c.text)
		for i, k := range allKinds() {
			got, ok := impl.ProofOf(g, k.m, c.source)
			wantNumbers(t, fmt.Sprintf("%s: the proof in %q from %d", k.name, c.text, c.source), got, ok, c.want[i].Parents...)
		}
	}
	random := rand.New(rand.NewSource(72))
	for range 60 {
		g := randomGraph(random, 1+random.Intn(impl.MaxNodes), random.Intn(impl.MaxEdges+1), 1+random.Intn(20))
		for _, k := range allKinds() {
			source := random.Intn(g.Nodes)
			got, ok := impl.ProofOf(g, k.m, source)
			wantNumbers(t, k.name+": ProofOf", got, ok, bestFirst(t, g, k.m, source).Parents...)
			wantProved(t, k.name, g, viewOf(t, g, k.m, source), got)
		}
	}
}

func TestProofOfInvalidArguments(t *testing.T) {
	checkInvalidStarts(t, func(t *testing.T, what string, g impl.Graph, m int, source int) {
		t.Helper()
		got, ok := impl.ProofOf(g, m, source)
		wantNoNumbers(t, what, got, ok)
	})
}

// TestProofsLikeScans checks right views with parents, and such with one or several numbers that are other ones.
func TestProofsLikeScans(t *testing.T) {
	random := rand.New(rand.NewSource(73))
	ends := map[int]int{}
	for range 150 {
		for _, kind := range allKinds() {
			k := kind.randomKept(t, random)
			for range 12 {
				end, place := impl.CheckProof(k.Graph, k.View, k.Parents)
				wantedEnd, wantedPlace := checkedByScans(t, k.Graph, k.View, k.Parents)
				wantEnd(t, describe(k), end, place, wantedEnd, wantedPlace)
				if impl.KeptValid(k) != (end == impl.ProofOk) {
					t.Errorf("KeptValid of %s = %v, but CheckProof = %d", describe(k), impl.KeptValid(k), end)
				}
				ends[end]++
				k = damaged(random, k)
			}
			v := kind.randomView(random, k.Graph.Nodes)
			end, place := impl.CheckProof(k.Graph, v, k.Parents)
			wantedEnd, wantedPlace := checkedByScans(t, k.Graph, v, k.Parents)
			wantEnd(t, fmt.Sprintf("%v in %q", v, impl.FormatGraph(k.Graph)), end, place, wantedEnd, wantedPlace)
		}
	}
	for end := range 6 {
		if ends[end] == 0 {
			t.Errorf("no proof ends with %d", end)
		}
	}
}

func TestFirstFault(t *testing.T) {
	net := "4 0>1=5 0>2=3 1>3=1 2>1=1"
	cases := []struct {
		what string
		text string
		view impl.View
		want int
	}{
		{"the source", net, lengths(0, 1, 4, 3, 5), 0},
		{"a value too great", net, lengths(0, 0, 5, 3, 5), 1},
		{"a value too small", net, lengths(0, 0, 4, 2, 5), 2},
		{"the last node", net, lengths(0, 0, 4, 3, 100000), 3},
		{"the first one of two", net, lengths(0, 0, 4, 4, 4), 2},
		{"all nodes", net, lengths(0, 7, 7, 7, 7), 0},
		{"another source", net, lengths(3, 100000, 100000, 1, 0), 2},
		{"a node that is not reached", "2", lengths(0, 0, 99999), 1},
		{"the only node", "1", lengths(0, 1), 0},
		{"a stable view", "3 1>2=5 2>1=5", widths(0, 100000, 5, 5), 1},
	}
	for _, c := range cases {
		got, ok := impl.FirstFault(graphOf(t, c.text), c.view)
		wantValue(t, c.what, got, ok, c.want)
	}
	random := rand.New(rand.NewSource(74))
	for range 100 {
		g := randomGraph(random, 1+random.Intn(impl.MaxNodes), random.Intn(impl.MaxEdges+1), 1+random.Intn(20))
		for _, k := range allKinds() {
			v := viewOf(t, g, k.m, random.Intn(g.Nodes))
			got, ok := impl.FirstFault(g, v)
			wantNoValue(t, k.name+": the first fault of a right view", got, ok)
			node := random.Intn(g.Nodes)
			for later := node; later < g.Nodes; later++ {
				if later == node || random.Intn(2) == 0 {
					v.Values[later] = k.otherValue(random, v.Values[later])
				}
			}
			got, ok = impl.FirstFault(g, v)
			wantValue(t, fmt.Sprintf("%s: the first fault of %v in %q", k.name, v, impl.FormatGraph(g)), got, ok, node)
		}
	}
}

func (k kindOfMeasures) otherValue(random *rand.Rand, value int) int {
	some := k.someValues()
	for {
		if other := some[random.Intn(len(some))]; other != value {
			return other
		}
	}
}

func TestBetterPath(t *testing.T) {
	net := "4 0>1=5 0>2=3 1>3=1 2>1=1"
	cases := []struct {
		what string
		text string
		view impl.View
		node int
		want []int
	}{
		{"a value too great", net, lengths(0, 0, 5, 3, 6), 1, []int{0, 2, 1}},
		{"one too great by others", net, lengths(0, 0, 5, 3, 6), 3, []int{0, 2, 1, 3}},
		{"no path as yet", net, lengths(0, 0, 100000, 100000, 100000), 2, []int{0, 2}},
		{"a view that is wrong elsewhere", net, lengths(0, 9, 1, 1, 6), 3, []int{0, 2, 1, 3}},
		{"the source", net, lengths(0, 1, 4, 3, 5), 0, []int{0}},
		{"the only node", "1", lengths(0, 100000), 0, []int{0}},
		{"another source", net, lengths(2, 100000, 2, 0, 3), 3, []int{2, 1, 3}},
		{"a wider path", "3 0>1=5 0>2=3 1>2=4", widths(0, 100000, 5, 3), 2, []int{0, 1, 2}},
		{"the path of BestFirst of two", "4 0>1=1 0>2=1 1>3=1 2>3=1", lengths(0, 0, 1, 1, 3), 3, []int{0, 1, 3}},
		{"the path of BestFirst of two, behind the better node", "4 0>1=2 0>2=1 1>3=1 2>3=2", lengths(0, 0, 2, 1, 4), 3, []int{0, 2, 3}},
		{"a reach", "3 0>1=5 1>2=1", impl.View{Measure: impl.MeasureReach, Values: []int{1, 1, 0}}, 2, []int{0, 1, 2}},

		{"the right value", net, lengths(0, 0, 4, 3, 5), 3, nil},
		{"the right value among wrong ones", net, lengths(0, 1, 9, 9, 5), 3, nil},
		{"a value too small", net, lengths(0, 0, 3, 3, 5), 1, nil},
		{"a node that is not reached", "3 1>2=1", lengths(0, 0, 100000, 100000), 2, nil},
		{"a node that is not reached, but has a value", "3 1>2=1", lengths(0, 0, 1, 2), 2, nil},
		{"a width too great", "3 0>1=5 0>2=3 1>2=4", widths(0, 100000, 5, 5), 2, nil},
	}
	for _, c := range cases {
		got, ok := impl.BetterPath(graphOf(t, c.text), c.view, c.node)
		if c.want == nil {
			wantNoNumbers(t, c.what, got, ok)
		} else {
			wantNumbers(t, c.what, got, ok, c.want...)
		}
	}
}

func TestBetterPathLikeScans(t *testing.T) {
	random := rand.New(rand.NewSource(75))
	for range 60 {
		g := randomGraph(random, 1+random.Intn(impl.MaxNodes), random.Intn(impl.MaxEdges+1), 1+random.Intn(60))
		for _, k := range allKinds() {
			for _, v := range k.views(t, random, g) {
				s := bestFirst(t, g, k.m, v.Source)
				for node, value := range v.Values {
					what := fmt.Sprintf("%s: the better path to %d of %v in %q", k.name, node, v, impl.FormatGraph(g))
					got, ok := impl.BetterPath(g, v, node)
					if !impl.IsBetter(k.m, s.Values[node], value) {
						wantNoNumbers(t, what, got, ok)
						continue
					}
					path, _ := impl.PathTo(s, v.Source, node)
					wantNumbers(t, what, got, ok, path...)
					weights, fine := impl.PathEdges(g, got)
					measure, valid := impl.PathMeasure(k.m, weights)
					if !fine || !valid || !impl.IsBetter(k.m, measure, value) {
						t.Errorf("%s = %v has %d, %v, %v", what, got, measure, fine, valid)
					}
				}
			}
		}
	}
}

func TestBetterPathToInvalidNodes(t *testing.T) {
	for _, text := range []string{"1", "3", "3 0>1=5 1>2=7", "12 0>1=5"} {
		g := graphOf(t, text)
		for _, k := range allKinds() {
			v := startOf(k, g.Nodes, 0)
			v.Values[0] = k.none
			for _, node := range []int{-1, -2, g.Nodes, 12, 13, math.MinInt, math.MaxInt} {
				got, ok := impl.BetterPath(g, v, node)
				wantNoNumbers(t, fmt.Sprintf("%s: the node %d of %q", k.name, node, text), got, ok)
			}
		}
	}
}

func TestTightEdges(t *testing.T) {
	net := "4 0>1=5 0>2=3 1>3=1 2>1=1"
	cases := []struct {
		what string
		text string
		view impl.View
		want []int
	}{
		{"no edges", "2", lengths(0, 0, 0), nil},
		{"the right view", net, lengths(0, 0, 4, 3, 5), []int{1, 2, 3}},
		{"several edges to a node", "4 0>1=1 0>2=1 1>3=1 2>3=1", lengths(0, 0, 1, 1, 2), []int{0, 1, 2, 3}},
		{"nodes that are not reached", "4 0>1=5 2>3=1 3>2=1", lengths(0, 0, 5, 100000, 100000), []int{0}},
		{"the narrowest nodes", "4 0>1=5 2>3=1 3>2=1", widths(0, 100000, 5, 0, 0), []int{0}},
		{"a view that is not right", net, lengths(0, 1, 6, 5, 6), []int{0, 3}},
		{"loose edges and values too good", net, lengths(0, 0, 9, 2, 1), nil},
		{"a cycle", "3 1>2=5 2>1=5", widths(0, 100000, 5, 5), []int{0, 1}},
		{"edges of a wide cycle", "3 0>1=5 1>2=9 2>1=9", widths(0, 100000, 5, 5), []int{0, 1, 2}},
		{"edges to the source that give it its value", "3 0>1=1 1>0=1 1>2=1 2>0=1", impl.View{Measure: impl.MeasureReach, Values: []int{1, 1, 1}}, []int{0, 1, 2, 3}},
		{"edges to the source that are worse", "3 0>1=1 1>0=1 1>2=1 2>0=1", lengths(0, 0, 1, 2), []int{0, 2}},
		{"peaks", "3 0>1=5 0>2=4 1>2=4", impl.View{Measure: impl.MeasurePeak, Values: []int{0, 5, 5}}, []int{0, 2}},
		{"hops", "3 0>1=5 0>2=4 1>2=4", impl.View{Measure: impl.MeasureHops, Values: []int{0, 1, 1}}, []int{0, 1}},
		{"a sum just below the limit", "2 0>1=1", lengths(1, 99998, 99999), []int{0}},
		{"a sum at the limit", "2 0>1=1", lengths(1, 99999, 100000), nil},
		{"a sum past the limit", "2 0>1=999", lengths(1, 99999, 100000), nil},
	}
	for _, c := range cases {
		wantNumbers(t, c.what, impl.TightEdges(graphOf(t, c.text), c.view), true, c.want...)
	}
	random := rand.New(rand.NewSource(76))
	for range 100 {
		g := randomGraph(random, 1+random.Intn(impl.MaxNodes), random.Intn(impl.MaxEdges+1), 1+random.Intn(60))
		for _, k := range allKinds() {
			for _, v := range k.views(t, random, g) {
				var tight []int
				for edge, e := range g.Edges {
					if value := v.Values[e.To]; value != k.none && valueByExtend(t, k.m, v.Values, e) == value {
						tight = append(tight, edge)
					}
				}
				wantNumbers(t, fmt.Sprintf("%s: TightEdges of %v in %q", k.name, v, impl.FormatGraph(g)), impl.TightEdges(g, v), true, tight...)
			}
		}
	}
}

// TestTreesAreTight checks that the edges of a proof are tight, and that all tight edges to nodes behind the source can be in one.
func TestTreesAreTight(t *testing.T) {
	random := rand.New(rand.NewSource(77))
	for range 60 {
		g := randomGraph(random, 1+random.Intn(impl.MaxNodes), random.Intn(impl.MaxEdges+1), 1+random.Intn(12))
		source := random.Intn(g.Nodes)
		v := viewOf(t, g, impl.MeasureLength, source)
		tight := impl.TightEdges(g, v)
		parents := proofOf(t, g, impl.MeasureLength, source)
		for edge, e := range g.Edges {
			if parents[e.To] == e.From && !slices.Contains(tight, edge) {
				t.Errorf("the edge %v of the proof %v is not tight in %q", e, parents, impl.FormatGraph(g))
			}
			if slices.Contains(tight, edge) {
				other := slices.Clone(parents)
				other[e.To] = e.From
				wantProved(t, fmt.Sprintf("with the edge %v", e), g, v, other)
			}
		}
	}
}

func TestCountBest(t *testing.T) {
	// Three, four and three nodes behind each other between two others, with all edges from each of them to the next ones, and ten back.
	layers := "12 0>1=1 0>2=1 0>3=1 1>0=1 1>4=1 1>5=1 1>6=1 1>7=1 2>0=1 2>4=1 2>5=1 2>6=1 2>7=1 3>0=1 3>4=1 3>5=1 3>6=1 3>7=1" +
		" 4>8=1 4>9=1 4>10=1 5>8=1 5>9=1 5>10=1 6>8=1 6>9=1 6>10=1 7>8=1 7>9=1 7>10=1" +
		" 8>4=1 8>5=1 8>11=1 9>4=1 9>5=1 9>11=1 10>4=1 10>11=1 11>0=1 11>8=1"
	cases := []struct {
		text   string
		source int
		node   int
		want   int
	}{
		{"1", 0, 0, 1},
		{"2", 0, 1, 0},
		{"2 1>0=1", 0, 1, 0},
		{"2 1>0=1", 1, 0, 1},
		// Both are the same node, and a cycle leads back to it.
		{"2 0>1=1 1>0=1", 0, 0, 1},
		{"3 0>1=1 1>2=1", 0, 2, 1},
		{"4 0>1=1 0>2=1 1>3=1 2>3=1", 3, 0, 0},
		{"4 0>1=1 0>2=1 1>3=1 2>3=1", 3, 3, 1},
		{"4 0>1=1 0>2=1 1>3=1 2>3=1", 2, 3, 1},
		// Weights do not matter.
		{"4 0>1=1 0>2=999 1>3=1 2>3=500", 0, 3, 2},
		{"3 0>1=1 0>2=999 1>2=1", 0, 2, 1},
		// Only the paths with the fewest edges count, also those of nodes on the way.
		{"4 0>1=1 0>2=1 0>3=1 1>3=1 2>3=1", 0, 3, 1},
		{"5 0>1=1 0>2=1 1>2=1 1>3=1 2>3=1 3>4=1", 0, 4, 2},
		{"5 0>1=1 0>2=1 1>3=1 2>1=1 2>3=1 3>1=1 3>4=1", 0, 4, 2},
		{"7 0>1=1 0>2=1 1>3=1 2>3=1 3>4=1 3>5=1 4>6=1 5>6=1", 0, 6, 4},
		{layers, 0, 11, 36},
		{layers, 0, 10, 12},
		{layers, 11, 0, 1},
		{layers, 1, 11, 12},
		{layers, 8, 9, 2},
	}
	for _, c := range cases {
		got, ok := impl.CountBest(graphOf(t, c.text), c.source, c.node)
		wantValue(t, fmt.Sprintf("the number of paths from %d to %d in %q", c.source, c.node, c.text), got, ok, c.want)
	}
	for nodes := 1; nodes <= impl.MaxNodes; nodes++ {
		got, ok := impl.CountBest(row(nodes, 1), 0, nodes-1)
		wantValue(t, fmt.Sprintf("the number of paths along a row of %d nodes", nodes), got, ok, 1)
	}
}

func TestCountBestOfAllPaths(t *testing.T) {
	random := rand.New(rand.NewSource(78))
	for range 150 {
		nodes := 1 + random.Intn(impl.MaxNodes)
		g := randomGraph(random, nodes, random.Intn(min(impl.MaxEdges, 3*nodes)+1), impl.MaxWeight)
		source := random.Intn(nodes)
		counts := make([][impl.MaxNodes]int, nodes)
		measuresOfWalks(t, g, impl.MeasureHops, source, func(path []int) bool {
			if !throughNoNodeTwice(path) {
				return false
			}
			counts[path[len(path)-1]][len(path)-1]++
			return true
		})
		for node := range nodes {
			want := 0
			for _, count := range counts[node] {
				if want == 0 {
					want = count
				}
			}
			got, ok := impl.CountBest(g, source, node)
			wantValue(t, fmt.Sprintf("the number of paths from %d to %d in %q", source, node, impl.FormatGraph(g)), got, ok, want)
		}
	}
}

func TestCountBestOfInvalidArguments(t *testing.T) {
	for name, g := range invalidGraphs() {
		for _, node := range []int{0, 1} {
			got, ok := impl.CountBest(g, 0, node)
			wantNoValue(t, name, got, ok)
		}
	}
	for _, text := range []string{"1", "3 0>1=5 1>2=7", "12 0>1=5"} {
		g := graphOf(t, text)
		for _, bad := range []int{-1, g.Nodes, 12, 13, math.MinInt, math.MaxInt} {
			for _, ends := range [][2]int{{bad, 0}, {0, bad}, {bad, bad}} {
				got, ok := impl.CountBest(g, ends[0], ends[1])
				wantNoValue(t, fmt.Sprintf("from %d to %d in %q", ends[0], ends[1], text), got, ok)
			}
		}
	}
}

// wantNothingProved checks the results for a view that is not valid.
func wantNothingProved(t *testing.T, what string, g impl.Graph, v impl.View, parents []int) {
	t.Helper()
	end, place := impl.CheckProof(g, v, parents)
	wantEnd(t, what, end, place, impl.ProofShape, 0)
	fault, ok := impl.FirstFault(g, v)
	wantNoValue(t, what+": FirstFault", fault, ok)
	wantNumbers(t, what+": TightEdges", impl.TightEdges(g, v), true)
	for node := range 3 {
		path, ok := impl.BetterPath(g, v, node)
		wantNoNumbers(t, what+": BetterPath", path, ok)
	}
}

func TestProofsOfInvalidViews(t *testing.T) {
	for name, v := range invalidViews() {
		for _, parents := range [][]int{nil, {-1, -1}, {-1, -1, -1}, {-1, 0, 1}, {-1, -1, -1, -1}} {
			wantNothingProved(t, name, graphOf(t, "3"), v, parents)
			wantNothingProved(t, name+" with edges", graphOf(t, "3 0>1=5 1>2=7"), v, parents)
		}
	}
	for name, g := range invalidGraphs() {
		for _, k := range allKinds() {
			for _, nodes := range []int{1, 3, impl.MaxNodes, impl.MaxNodes + 1} {
				wantNothingProved(t, k.name+" of "+name, g, startOf(k, nodes, 0), slices.Repeat([]int{-1}, nodes))
			}
		}
		wantNothingProved(t, name, g, impl.View{Measure: 1}, nil)
	}
}

func TestProofsAtLimits(t *testing.T) {
	last := impl.MaxNodes - 1
	long := row(impl.MaxNodes, impl.MaxWeight)
	full := greatestGraph()
	for _, k := range allKinds() {
		for _, g := range []impl.Graph{long, full} {
			v := viewOf(t, g, k.m, 0)
			parents := proofOf(t, g, k.m, 0)
			wantProved(t, k.name+": the limits", g, v, parents)
			for _, count := range []int{0, last, impl.MaxNodes + 1} {
				end, place := impl.CheckProof(g, v, append(parents, -1)[:count])
				wantEnd(t, fmt.Sprintf("%s: %d parents", k.name, count), end, place, impl.ProofShape, 0)
			}
			for _, bad := range k.invalidValues() {
				wrong := withValues(v, slices.Clone(v.Values)...)
				wrong.Values[last] = bad
				wantNothingProved(t, fmt.Sprintf("%s: the value %d", k.name, bad), g, wrong, parents)
			}
		}
		tight := impl.TightEdges(long, viewOf(t, long, k.m, 0))
		wantNumbers(t, k.name+": the tight edges of the longest row", tight, true, firstNodes(last)...)
		path, ok := impl.BetterPath(long, startOf(k, impl.MaxNodes, 0), last)
		wantNumbers(t, k.name+": the longest path", path, ok, firstNodes(impl.MaxNodes)...)
		wantNothingProved(t, k.name+": a node too many", row(impl.MaxNodes+1, 1), startOf(k, impl.MaxNodes+1, 0), slices.Repeat([]int{-1}, impl.MaxNodes+1))
		more := impl.Graph{Nodes: impl.MaxNodes, Edges: firstEdges(impl.MaxNodes, impl.MaxEdges+1)}
		wantNothingProved(t, k.name+": an edge too many", more, viewOf(t, full, k.m, 0), proofOf(t, full, k.m, 0))
		heavy := impl.Graph{Nodes: 2, Edges: []impl.Edge{{From: 0, To: 1, Weight: impl.MaxWeight + 1}}}
		wantNothingProved(t, k.name+": too great a weight", heavy, startOf(k, 2, 0), []int{-1, 0})
	}
	// The greatest measure is that of no path, and the one below it is not.
	for _, c := range []proofCase{
		{"the greatest length", "2", lengths(0, 0, impl.MaxMeasure), []int{-1, -1}, impl.ProofOk, 0},
		{"the greatest length but one", "2", lengths(0, 0, impl.MaxMeasure-1), []int{-1, -1}, impl.ProofParent, 1},
		{"past the greatest length", "2", lengths(0, 0, impl.MaxMeasure+1), []int{-1, -1}, impl.ProofShape, 0},
		{"the greatest width", "2", widths(0, impl.MaxMeasure, 0), []int{-1, -1}, impl.ProofOk, 0},
		{"the greatest width but one", "2", widths(0, impl.MaxMeasure-1, 0), []int{-1, -1}, impl.ProofSource, 0},
		{"past the greatest width", "2", widths(0, impl.MaxMeasure+1, 0), []int{-1, -1}, impl.ProofShape, 0},
	} {
		c.check(t)
	}
}

func TestProofArgumentsAreKept(t *testing.T) {
	// What is behind the lengths tells whether a function writes there.
	all := firstEdges(4, 12)
	g := impl.Graph{Nodes: 4, Edges: all[:9]}
	for _, k := range allKinds() {
		values, parents := append(viewOf(t, g, k.m, 0).Values, 7, 7, 7), append(proofOf(t, g, k.m, 0), 8, 8, 8)
		v := impl.View{Measure: k.m, Values: values[:4]}
		beforeValues, beforeParents := slices.Clone(values), slices.Clone(parents)
		start := startOf(k, 4, 0)
		results := func() [][]int {
			path, _ := impl.BetterPath(g, start, 3)
			return [][]int{proofOf(t, g, k.m, 0), path, impl.TightEdges(g, v)}
		}
		got, copies := results(), results()
		for i, numbers := range got {
			if len(numbers) == 0 || !slices.Equal(numbers, copies[i]) {
				t.Errorf("%s: the result %d is empty, or changed with another one, from %v to %v", k.name, i, copies[i], numbers)
			}
			overwrite(impl.Kept{Parents: numbers})
		}
		wantProved(t, k.name+": behind changes of results", g, v, parents[:4])
		fault, ok := impl.FirstFault(g, v)
		wantNoValue(t, k.name+": FirstFault behind changes of results", fault, ok)
		impl.CountBest(g, 0, 3)
		if !slices.Equal(values, beforeValues) || !slices.Equal(parents, beforeParents) || !slices.Equal(all, firstEdges(4, 12)) || !impl.ViewSame(start, startOf(k, 4, 0)) {
			t.Errorf("%s: the arguments became %v, %v, %v and %v", k.name, values, parents, all, start)
		}
		for i, numbers := range results() {
			wantNumbers(t, fmt.Sprintf("%s: the result %d behind changes of results", k.name, i), numbers, true, copies[i]...)
		}
	}
}

// TestPromise7 checks that each view with a proof has the best measures of all paths, along which its parents lead, and that each such view has one.
func TestPromise7(t *testing.T) {
	random := rand.New(rand.NewSource(777))
	for range 60 {
		g := randomGraph(random, 1+random.Intn(impl.MaxNodes), random.Intn(30), 1+random.Intn(12))
		for _, kind := range allKinds() {
			source := random.Intn(g.Nodes)
			right := impl.View{Measure: kind.m, Source: source, Values: kind.bestByPaths(t, g, source)}
			k := impl.Kept{Graph: g, View: right, Parents: proofOf(t, g, kind.m, source)}
			wantProved(t, kind.name, g, right, k.Parents)
			for range 40 {
				bad := withOtherParents(t, random, k)
				for range random.Intn(3) {
					bad = damaged(random, bad)
				}
				bad.Graph, bad.View.Source = g, source
				if end, _ := impl.CheckProof(g, bad.View, bad.Parents); end == impl.ProofOk {
					wantView(t, "the view that is proved", bad.View, true, right)
					wantPathsByParents(t, bad)
				}
			}
		}
	}
}

func wantPathsByParents(t *testing.T, k impl.Kept) {
	t.Helper()
	for _, node := range impl.ReachedNodes(k.Graph, k.View) {
		wantRightPath(t, describe(k), k.Graph, k.View.Measure, k.View.Source, impl.Settled{Parents: k.Parents, Values: k.View.Values}, node)
	}
}

// TestPromise7InSmallGraphs tries all parents for all views with small values
// in all graphs of three nodes with weights up to 2, where no edge leads to the source.
func TestPromise7InSmallGraphs(t *testing.T) {
	edges := []impl.Edge{{From: 0, To: 1}, {From: 0, To: 2}, {From: 1, To: 2}, {From: 2, To: 1}}
	allParents := allLists(3, -1, 2)
	for _, g := range allGraphs(3, edges, 2) {
		for _, kind := range allKinds() {
			right := impl.View{Measure: kind.m, Values: kind.bestByPaths(t, g, 0)}
			for _, v := range kind.smallViews() {
				isRight := impl.ViewSame(v, right)
				for _, parents := range allParents {
					end, _ := impl.CheckProof(g, v, parents)
					want := isRight && validByScans(t, impl.Kept{Graph: g, View: v, Parents: parents})
					if (end == impl.ProofOk) != want {
						t.Errorf("%s: %v by %v in %q: CheckProof = %d", kind.name, v, parents, impl.FormatGraph(g), end)
					}
				}
			}
		}
	}
}

// smallViews are the views from 0 of three nodes with the values that paths with weights up to 2 can have.
func (k kindOfMeasures) smallViews() []impl.View {
	choices := []int{k.none, k.empty}
	if k.most > 1 {
		choices = append(choices, 1, 2, 3, 4)
	}
	var views []impl.View
	for _, places := range allLists(3, 0, len(choices)-1) {
		v := impl.View{Measure: k.m}
		for _, place := range places {
			v.Values = append(v.Values, choices[place])
		}
		views = append(views, v)
	}
	return views
}
