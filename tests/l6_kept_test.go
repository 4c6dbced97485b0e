package tests

import (
	"fmt"
	"math"
	"math/rand"
	"slices"
	"testing"

	"loop.example/graphviews/impl"
)

func sameKept(a impl.Kept, b impl.Kept) bool {
	return impl.GraphSame(a.Graph, b.Graph) && impl.ViewSame(a.View, b.View) && slices.Equal(a.Parents, b.Parents)
}

func wantKept(t *testing.T, what string, got impl.Kept, ok bool, want impl.Kept) {
	t.Helper()
	if !ok || !sameKept(got, want) {
		t.Errorf("%s = %v, %v, want %v, true", what, got, ok, want)
	}
}

func wantNoKept(t *testing.T, what string, got impl.Kept, ok bool) {
	t.Helper()
	if ok || !sameKept(got, impl.Kept{}) {
		t.Errorf("%s = %v, %v, want the zero value, false", what, got, ok)
	}
}

func wantLooked(t *testing.T, what string, got impl.Kept, looked int, ok bool, want impl.Kept, wantLooked int) {
	t.Helper()
	if !ok || looked != wantLooked || !sameKept(got, want) {
		t.Errorf("%s = %v, %d, %v, want %v, %d, true", what, got, looked, ok, want, wantLooked)
	}
}

func wantNothingLooked(t *testing.T, what string, got impl.Kept, looked int, ok bool) {
	t.Helper()
	if ok || looked != 0 || !sameKept(got, impl.Kept{}) {
		t.Errorf("%s = %v, %d, %v, want the zero value, 0, false", what, got, looked, ok)
	}
}

func wantEdges(t *testing.T, what string, got []impl.Edge, ok bool, want ...impl.Edge) {
	t.Helper()
	if !ok || !slices.Equal(got, want) {
		t.Errorf("%s = %v, %v, want %v, true", what, got, ok, want)
	}
}

func wantNoEdges(t *testing.T, what string, got []impl.Edge, ok bool) {
	t.Helper()
	if ok || len(got) != 0 {
		t.Errorf("%s = %v, %v, want no edges, false", what, got, ok)
	}
}

// keepView fails the test if there is no kept view.
func keepView(t *testing.T, g impl.Graph, m int, source int) impl.Kept {
	t.Helper()
	k, ok := impl.KeepView(g, m, source)
	if !ok {
		t.Fatalf("no view of %q of the kind %d from %d is kept", impl.FormatGraph(g), m, source)
	}
	return k
}

func copyOfKept(k impl.Kept) impl.Kept {
	k.Graph.Edges = slices.Clone(k.Graph.Edges)
	k.View.Values = slices.Clone(k.View.Values)
	k.Parents = slices.Clone(k.Parents)
	return k
}

func describe(k impl.Kept) string {
	return fmt.Sprintf("%q of the kind %d from %d with %v by %v", impl.FormatGraph(k.Graph), k.View.Measure, k.View.Source, k.View.Values, k.Parents)
}

// valueByExtend does what the document says of the value of an edge.
func valueByExtend(t *testing.T, m int, values []int, e impl.Edge) int {
	t.Helper()
	edge, ok := impl.EdgeMeasure(m, e.Weight)
	if !ok {
		t.Fatalf("the edge %v has no measure of the kind %d", e, m)
	}
	return extended(t, m, values[e.From], edge)
}

// leadsByScans follows parents from a node for as many steps as there are nodes.
func leadsByScans(parents []int, node int, top int) bool {
	for range parents {
		if node == top {
			return true
		}
		if node < 0 || node >= len(parents) {
			return false
		}
		node = parents[node]
	}
	return false
}

// validByScans does what the document says of KeptValid.
func validByScans(t *testing.T, k impl.Kept) bool {
	t.Helper()
	right, ok := impl.ViewOf(k.Graph, k.View.Measure, k.View.Source)
	if !impl.ViewValid(k.Graph, k.View) || !ok || !impl.ViewSame(k.View, right) || len(k.Parents) != k.Graph.Nodes {
		return false
	}
	none, _ := impl.NoPath(k.View.Measure)
	for node, parent := range k.Parents {
		if node == k.View.Source || k.View.Values[node] == none {
			if parent != -1 {
				return false
			}
			continue
		}
		place := slices.IndexFunc(k.Graph.Edges, func(e impl.Edge) bool { return e.From == parent && e.To == node })
		if place < 0 || valueByExtend(t, k.View.Measure, right.Values, k.Graph.Edges[place]) != right.Values[node] || !leadsByScans(k.Parents, node, k.View.Source) {
			return false
		}
	}
	return true
}

func belowByScans(k impl.Kept, top int) []int {
	var below []int
	for node := range k.Parents {
		if leadsByScans(k.Parents, node, top) {
			below = append(below, node)
		}
	}
	return below
}

// lookAgain does what the document says of the set, without a heap, beginning with the nodes of set.
func lookAgain(t *testing.T, k *impl.Kept, set map[int]bool) int {
	t.Helper()
	m, values := k.View.Measure, k.View.Values
	none, _ := impl.NoPath(m)
	settled := map[int]bool{}
	for {
		best := -1
		for node := range k.Graph.Nodes {
			if set[node] && !settled[node] && values[node] != none && (best < 0 || impl.IsBetter(m, values[node], values[best])) {
				best = node
			}
		}
		if best < 0 {
			return len(set)
		}
		settled[best] = true
		for _, e := range k.Graph.Edges {
			if v := valueByExtend(t, m, values, e); e.From == best && impl.IsBetter(m, v, values[e.To]) {
				values[e.To], k.Parents[e.To] = v, best
				set[e.To], settled[e.To] = true, false
			}
		}
	}
}

// betteredByScans does what the document says of an edge that is put and not worse than before.
func betteredByScans(t *testing.T, k impl.Kept, changed impl.Graph, e impl.Edge) (impl.Kept, int) {
	t.Helper()
	k = copyOfKept(k)
	k.Graph = changed
	v := valueByExtend(t, k.View.Measure, k.View.Values, e)
	if !impl.IsBetter(k.View.Measure, v, k.View.Values[e.To]) {
		return k, 0
	}
	k.View.Values[e.To], k.Parents[e.To] = v, e.From
	looked := lookAgain(t, &k, map[int]bool{e.To: true})
	return k, looked
}

// worsenedByScans does what the document says of an edge that is cut, or put and worse than before.
func worsenedByScans(t *testing.T, k impl.Kept, changed impl.Graph, from int, to int) (impl.Kept, int) {
	t.Helper()
	k = copyOfKept(k)
	k.Graph = changed
	if k.Parents[to] != from {
		return k, 0
	}
	none, _ := impl.NoPath(k.View.Measure)
	set := map[int]bool{}
	for _, node := range belowByScans(k, to) {
		set[node] = true
	}
	for node := range set {
		k.View.Values[node], k.Parents[node] = none, -1
	}
	for _, e := range k.Graph.Edges {
		if v := valueByExtend(t, k.View.Measure, k.View.Values, e); !set[e.From] && set[e.To] && impl.IsBetter(k.View.Measure, v, k.View.Values[e.To]) {
			k.View.Values[e.To], k.Parents[e.To] = v, e.From
		}
	}
	looked := lookAgain(t, &k, set)
	return k, looked
}

// putByScans does what the document says of PutKept with an edge that can be put.
func putByScans(t *testing.T, k impl.Kept, e impl.Edge) (impl.Kept, int) {
	t.Helper()
	changed, ok := impl.PutEdge(k.Graph, e)
	after, fine := impl.EdgeMeasure(k.View.Measure, e.Weight)
	if !ok || !fine {
		t.Fatalf("%v is not put into %q", e, impl.FormatGraph(k.Graph))
	}
	if weight, there := impl.WeightOf(k.Graph, e.From, e.To); there {
		before, _ := impl.EdgeMeasure(k.View.Measure, weight)
		if impl.IsBetter(k.View.Measure, before, after) {
			return worsenedByScans(t, k, changed, e.From, e.To)
		}
	}
	return betteredByScans(t, k, changed, e)
}

// cutByScans does what the document says of CutKept with an edge that is there.
func cutByScans(t *testing.T, k impl.Kept, from int, to int) (impl.Kept, int) {
	t.Helper()
	changed, ok := impl.CutEdge(k.Graph, from, to)
	if !ok {
		t.Fatalf("%d>%d is not cut from %q", from, to, impl.FormatGraph(k.Graph))
	}
	return worsenedByScans(t, k, changed, from, to)
}

// withOtherParents is k with random parents of those that are allowed, which often are not those of BestFirst.
func withOtherParents(t *testing.T, random *rand.Rand, k impl.Kept) impl.Kept {
	t.Helper()
	k = copyOfKept(k)
	for _, place := range random.Perm(len(k.Graph.Edges)) {
		e := k.Graph.Edges[place]
		before := k.Parents[e.To]
		k.Parents[e.To] = e.From
		if !validByScans(t, k) {
			k.Parents[e.To] = before
		}
	}
	return k
}

// randomKept has small weights, which give many nodes the same value, or great ones.
func (k kindOfMeasures) randomKept(t *testing.T, random *rand.Rand) impl.Kept {
	t.Helper()
	weight := 1 + random.Intn(12)
	if random.Intn(4) == 0 {
		weight = impl.MaxWeight
	}
	g := randomGraph(random, 1+random.Intn(impl.MaxNodes), random.Intn(impl.MaxEdges+1), weight)
	return withOtherParents(t, random, keepView(t, g, k.m, random.Intn(g.Nodes)))
}

func TestKeptExample(t *testing.T) {
	k := keepView(t, graphOf(t, "3 0>1=5 0>2=3 2>1=1"), impl.MeasureLength, 0)
	wantNumbers(t, "the values", k.View.Values, true, 0, 4, 3)
	got, looked, ok := impl.CutKept(k, 2, 1)
	want := impl.Kept{Graph: graphOf(t, "3 0>1=5 0>2=3"), View: withValues(k.View, 0, 5, 3), Parents: []int{-1, 0, 0}}
	wantLooked(t, "the view without 2>1", got, looked, ok, want, 1)
}

func TestKeepView(t *testing.T) {
	for _, c := range searchesOfEachKind() {
		g := graphOf(t, c.text)
		for i, k := range allKinds() {
			got, ok := impl.KeepView(g, k.m, c.source)
			want := impl.Kept{Graph: g, View: impl.View{Measure: k.m, Source: c.source, Values: c.want[i].Values}, Parents: c.want[i].Parents}
			wantKept(t, fmt.Sprintf("%s in %q from %d", k.name, c.text, c.source), got, ok, want)
		}
	}
	random := rand.New(rand.NewSource(60))
	for range 60 {
		g := randomGraph(random, 1+random.Intn(impl.MaxNodes), random.Intn(impl.MaxEdges+1), 1+random.Intn(20))
		for _, k := range allKinds() {
			source := random.Intn(g.Nodes)
			got, ok := impl.KeepView(g, k.m, source)
			wantKept(t, k.name, got, ok, impl.Kept{Graph: g, View: viewOf(t, g, k.m, source), Parents: bestFirst(t, g, k.m, source).Parents})
			if !impl.KeptValid(got) {
				t.Errorf("%s is not valid", describe(got))
			}
		}
	}
}

func TestKeepViewOfInvalidArguments(t *testing.T) {
	checkInvalidStarts(t, func(t *testing.T, what string, g impl.Graph, m int, source int) {
		t.Helper()
		got, ok := impl.KeepView(g, m, source)
		wantNoKept(t, what, got, ok)
	})
}

func TestKeptValid(t *testing.T) {
	cases := []struct {
		text    string
		m       int
		source  int
		values  []int
		parents []int
	}{
		{"1", impl.MeasureLength, 0, []int{0}, []int{-1}},
		{"1", impl.MeasureReach, 0, []int{1}, []int{-1}},
		{"2 0>1=5", impl.MeasurePeak, 1, []int{100000, 0}, []int{-1, -1}},
		{"4 0>1=5 0>2=3 1>3=1 2>1=1", impl.MeasureLength, 0, []int{0, 4, 3, 5}, []int{-1, 2, 0, 1}},
		// Either of two parents gives the value.
		{"4 0>1=1 0>2=1 1>3=1 2>3=1", impl.MeasureLength, 0, []int{0, 1, 1, 2}, []int{-1, 0, 0, 1}},
		{"4 0>1=1 0>2=1 1>3=1 2>3=1", impl.MeasureLength, 0, []int{0, 1, 1, 2}, []int{-1, 0, 0, 2}},
		// Nodes of a cycle that are both reached otherwise: each can be the parent of the other one, but not both.
		{"3 0>1=5 0>2=5 1>2=9 2>1=9", impl.MeasureWidth, 0, []int{100000, 5, 5}, []int{-1, 0, 0}},
		{"3 0>1=5 0>2=5 1>2=9 2>1=9", impl.MeasureWidth, 0, []int{100000, 5, 5}, []int{-1, 0, 1}},
		{"3 0>1=5 0>2=5 1>2=9 2>1=9", impl.MeasureWidth, 0, []int{100000, 5, 5}, []int{-1, 2, 0}},
		// Nodes of a cycle that is not reached have no parents.
		{"3 1>2=9 2>1=9", impl.MeasureWidth, 0, []int{100000, 0, 0}, []int{-1, -1, -1}},
	}
	for _, c := range cases {
		k := impl.Kept{Graph: graphOf(t, c.text), View: impl.View{Measure: c.m, Source: c.source, Values: c.values}, Parents: c.parents}
		if !impl.KeptValid(k) {
			t.Errorf("%s is not valid", describe(k))
		}
	}
}

// invalidKept are kept views of graphs with three nodes or more that are not valid.
func invalidKept(t *testing.T) map[string]impl.Kept {
	t.Helper()
	length := keepView(t, graphOf(t, "4 0>1=5 0>2=3 2>1=1"), impl.MeasureLength, 0)
	width := keepView(t, graphOf(t, "4 0>1=5 0>2=5 1>2=9 2>1=9"), impl.MeasureWidth, 0)
	reach := keepView(t, graphOf(t, "4 0>1=5 1>2=1 2>0=1 2>1=1"), impl.MeasureReach, 0)
	chain := keepView(t, row(4, 1), impl.MeasurePeak, 0)
	cases := map[string]impl.Kept{
		"the zero value":                {},
		"no view":                       {Graph: length.Graph, Parents: length.Parents},
		"no parents":                    {Graph: length.Graph, View: length.View},
		"a parent too few":              {Graph: length.Graph, View: length.View, Parents: []int{-1, 2, 0}},
		"a parent too many":             {Graph: length.Graph, View: length.View, Parents: []int{-1, 2, 0, -1, -1}},
		"a value too good":              {Graph: length.Graph, View: withValues(length.View, 0, 3, 3, 100000), Parents: length.Parents},
		"a value too bad":               {Graph: length.Graph, View: withValues(length.View, 0, 5, 3, 100000), Parents: []int{-1, 0, 0, -1}},
		"a value of no node":            {Graph: length.Graph, View: withValues(length.View, 0, 4, 3, 99999), Parents: length.Parents},
		"a stable view":                 {Graph: length.Graph, View: withValues(length.View, 0, 4, 3, 0), Parents: length.Parents},
		"nothing reached":               {Graph: length.Graph, View: withValues(length.View, 100000, 100000, 100000, 100000), Parents: []int{-1, -1, -1, -1}},
		"another source":                {Graph: length.Graph, View: impl.View{Measure: 1, Source: 1, Values: length.View.Values}, Parents: length.Parents},
		"another kind":                  {Graph: length.Graph, View: impl.View{Measure: impl.MeasurePeak, Values: length.View.Values}, Parents: length.Parents},
		"the source has a parent":       {Graph: reach.Graph, View: reach.View, Parents: []int{2, 0, 1, -1}},
		"the source is its own parent":  {Graph: length.Graph, View: length.View, Parents: []int{0, 2, 0, -1}},
		"a node is its own parent":      {Graph: length.Graph, View: length.View, Parents: []int{-1, 1, 0, -1}},
		"a reached node has none":       {Graph: length.Graph, View: length.View, Parents: []int{-1, -1, 0, -1}},
		"a node not reached has one":    {Graph: length.Graph, View: length.View, Parents: []int{-1, 2, 0, 0}},
		"an edge with a worse value":    {Graph: length.Graph, View: length.View, Parents: []int{-1, 0, 0, -1}},
		"an edge the other way round":   {Graph: length.Graph, View: length.View, Parents: []int{-1, 2, 1, -1}},
		"a parent without an edge":      {Graph: chain.Graph, View: chain.View, Parents: []int{-1, 0, 1, 0}},
		"a parent of which none leads":  {Graph: length.Graph, View: length.View, Parents: []int{-1, 3, 0, -1}},
		"nodes hold each other up":      {Graph: width.Graph, View: width.View, Parents: []int{-1, 2, 1, -1}},
		"all reached nodes in a cycle":  {Graph: reach.Graph, View: reach.View, Parents: []int{-1, 2, 1, -1}},
		"a view held up by a cycle":     {Graph: graphOf(t, "4 1>2=9 2>1=9"), View: withValues(width.View, 100000, 9, 9, 0), Parents: []int{-1, 2, 1, -1}},
		"a node below no source":        {Graph: graphOf(t, "4 0>1=5 1>2=9 2>1=9 2>3=1"), View: withValues(width.View, 100000, 5, 5, 1), Parents: []int{-1, 2, 1, 2}},
		"the view of a graph with more": {Graph: graphOf(t, "5 0>1=5 0>2=3 2>1=1"), View: length.View, Parents: length.Parents},
	}
	for _, parent := range []int{-2, 4, 12, math.MinInt, math.MaxInt} {
		cases[fmt.Sprintf("the parent %d", parent)] = impl.Kept{Graph: length.Graph, View: length.View, Parents: []int{-1, parent, 0, -1}}
		cases[fmt.Sprintf("the parent %d of the source", parent)] = impl.Kept{Graph: length.Graph, View: length.View, Parents: []int{parent, 2, 0, -1}}
		cases[fmt.Sprintf("the parent %d of no node", parent)] = impl.Kept{Graph: length.Graph, View: length.View, Parents: []int{-1, 2, 0, parent}}
	}
	for name, v := range invalidViews() {
		cases["the view of "+name] = impl.Kept{Graph: graphOf(t, "3"), View: v, Parents: []int{-1, -1, -1}}
		cases["the view with edges of "+name] = impl.Kept{Graph: graphOf(t, "3 0>1=1 0>2=1"), View: v, Parents: []int{-1, 0, 0}}
	}
	for name, g := range invalidGraphs() {
		for _, k := range allKinds() {
			for _, nodes := range []int{1, 3, impl.MaxNodes, impl.MaxNodes + 1} {
				name := fmt.Sprintf("%s of %s with %d", k.name, name, nodes)
				cases[name] = impl.Kept{Graph: g, View: startOf(k, nodes, 0), Parents: slices.Repeat([]int{-1}, nodes)}
			}
		}
	}
	return cases
}

func TestInvalidKept(t *testing.T) {
	for name, k := range invalidKept(t) {
		if impl.KeptValid(k) {
			t.Errorf("%s: %v is valid", name, k)
		}
		for node := range 4 {
			below, ok := impl.NodesBelow(k, node)
			wantNoNumbers(t, name+": NodesBelow", below, ok)
			path, ok := impl.KeptPath(k, node)
			wantNoNumbers(t, name+": KeptPath", path, ok)
		}
		tree, ok := impl.TreeEdges(k)
		wantNoEdges(t, name+": TreeEdges", tree, ok)
		for _, e := range firstEdges(4, 12) {
			for _, weight := range []int{1, impl.MaxWeight} {
				got, looked, ok := impl.PutKept(k, impl.Edge{From: e.From, To: e.To, Weight: weight})
				wantNothingLooked(t, name+": PutKept", got, looked, ok)
			}
			got, looked, ok := impl.CutKept(k, e.From, e.To)
			wantNothingLooked(t, name+": CutKept", got, looked, ok)
		}
	}
}

// damaged is k with one number that is another one.
func damaged(random *rand.Rand, k impl.Kept) impl.Kept {
	k = copyOfKept(k)
	node := random.Intn(k.Graph.Nodes)
	switch random.Intn(5) {
	case 0:
		k.View.Values[node] += 1 - 2*random.Intn(2)
	case 1:
		k.View.Source = random.Intn(k.Graph.Nodes)
	case 2:
		if len(k.Graph.Edges) > 0 {
			k.Graph.Edges[random.Intn(len(k.Graph.Edges))].Weight = random.Intn(13)
		}
	default:
		k.Parents[node] = random.Intn(k.Graph.Nodes+2) - 1
	}
	return k
}

func TestKeptValidLikeScans(t *testing.T) {
	random := rand.New(rand.NewSource(61))
	for range 150 {
		for _, kind := range allKinds() {
			k := kind.randomKept(t, random)
			if !impl.KeptValid(k) {
				t.Errorf("%s is not valid", describe(k))
			}
			for range 10 {
				bad := damaged(random, k)
				if got, want := impl.KeptValid(bad), validByScans(t, bad); got != want {
					t.Errorf("KeptValid of %v = %v, want %v", bad, got, want)
				}
			}
		}
	}
}

func TestTrees(t *testing.T) {
	k := keepView(t, graphOf(t, "6 0>1=5 0>2=3 1>3=1 2>1=1 3>4=1 4>0=1"), impl.MeasureLength, 0)
	below := [][]int{{0, 1, 2, 3, 4}, {1, 3, 4}, {1, 2, 3, 4}, {3, 4}, {4}, {5}}
	paths := [][]int{{0}, {0, 2, 1}, {0, 2}, {0, 2, 1, 3}, {0, 2, 1, 3, 4}}
	for node := range k.Graph.Nodes {
		got, ok := impl.NodesBelow(k, node)
		wantNumbers(t, fmt.Sprintf("the nodes below %d", node), got, ok, below[node]...)
		got, ok = impl.KeptPath(k, node)
		if node == 5 {
			wantNoNumbers(t, "the path to a node that is not reached", got, ok)
		} else {
			wantNumbers(t, fmt.Sprintf("the path to %d", node), got, ok, paths[node]...)
		}
	}
	tree, ok := impl.TreeEdges(k)
	wantEdges(t, "the tree", tree, ok, impl.Edge{From: 0, To: 2, Weight: 3}, impl.Edge{From: 1, To: 3, Weight: 1}, impl.Edge{From: 2, To: 1, Weight: 1}, impl.Edge{From: 3, To: 4, Weight: 1})
	for _, text := range []string{"1", "3", "3 1>0=5 1>2=5"} {
		none := keepView(t, graphOf(t, text), impl.MeasureWidth, 0)
		tree, ok = impl.TreeEdges(none)
		wantEdges(t, "no tree", tree, ok)
		got, ok := impl.NodesBelow(none, 0)
		wantNumbers(t, "the nodes below a source that reaches none", got, ok, 0)
		got, ok = impl.KeptPath(none, 0)
		wantNumbers(t, "the path to the source", got, ok, 0)
	}
}

func TestTreesLikeScans(t *testing.T) {
	random := rand.New(rand.NewSource(62))
	for range 60 {
		for _, kind := range allKinds() {
			k := kind.randomKept(t, random)
			what := describe(k)
			var tree []impl.Edge
			for _, e := range k.Graph.Edges {
				if k.Parents[e.To] == e.From {
					tree = append(tree, e)
				}
			}
			got, ok := impl.TreeEdges(k)
			wantEdges(t, what+": TreeEdges", got, ok, tree...)
			reached := impl.ReachedNodes(k.Graph, k.View)
			wantValue(t, what+": the number of TreeEdges", len(got), ok, len(reached)-1)
			for node := range k.Graph.Nodes {
				below, ok := impl.NodesBelow(k, node)
				wantNumbers(t, fmt.Sprintf("%s: NodesBelow of %d", what, node), below, ok, belowByScans(k, node)...)
				if slices.Contains(reached, node) {
					wantRightPath(t, what, k.Graph, kind.m, k.View.Source, impl.Settled{Parents: k.Parents, Values: k.View.Values}, node)
					path, ok := impl.KeptPath(k, node)
					wanted, _ := impl.PathTo(impl.Settled{Parents: k.Parents}, k.View.Source, node)
					wantNumbers(t, fmt.Sprintf("%s: KeptPath to %d", what, node), path, ok, wanted...)
				} else {
					path, ok := impl.KeptPath(k, node)
					wantNoNumbers(t, fmt.Sprintf("%s: KeptPath to %d", what, node), path, ok)
				}
			}
		}
	}
}

func TestTreesOfInvalidNodes(t *testing.T) {
	for _, text := range []string{"1", "3", "3 0>1=5 1>2=7", "12 0>1=5"} {
		g := graphOf(t, text)
		for _, kind := range allKinds() {
			k := keepView(t, g, kind.m, 0)
			for _, node := range []int{-1, -2, g.Nodes, 12, 13, math.MinInt, math.MaxInt} {
				what := fmt.Sprintf("%s: the node %d of %q", kind.name, node, text)
				got, ok := impl.NodesBelow(k, node)
				wantNoNumbers(t, what+": NodesBelow", got, ok)
				got, ok = impl.KeptPath(k, node)
				wantNoNumbers(t, what+": KeptPath", got, ok)
			}
		}
	}
}

// changeOfKept is an edge that is put into the view from 0, or cut if its weight is 0. The parents in front of it are those of BestFirst if there are none.
type changeOfKept struct {
	what    string
	text    string
	m       int
	parents []int
	edge    impl.Edge
	values  []int
	behind  []int
	looked  int
}

// check makes the change, and checks the result against the wanted one and against what the document says.
func (c changeOfKept) check(t *testing.T) {
	t.Helper()
	k := keepView(t, graphOf(t, c.text), c.m, 0)
	if c.parents != nil {
		k.Parents = c.parents
	}
	changed, fine := impl.CutEdge(k.Graph, c.edge.From, c.edge.To)
	got, looked, ok := impl.CutKept(k, c.edge.From, c.edge.To)
	if c.edge.Weight != 0 {
		changed, fine = impl.PutEdge(k.Graph, c.edge)
		got, looked, ok = impl.PutKept(k, c.edge)
	}
	want := impl.Kept{Graph: changed, View: withValues(k.View, c.values...), Parents: c.behind}
	wantLooked(t, c.what, got, looked, ok && fine, want, c.looked)
	if !impl.KeptValid(got) {
		t.Errorf("%s: %s is not valid", c.what, describe(got))
	}
}

func TestEdgesThatAreCut(t *testing.T) {
	cases := []changeOfKept{
		{"an edge that is not in the tree", "4 0>1=5 0>2=3 1>3=1 2>1=1", impl.MeasureLength, nil, impl.Edge{From: 0, To: 1}, []int{0, 4, 3, 5}, []int{-1, 2, 0, 1}, 0},
		{"an edge that is not in the tree, and as good", "3 0>1=2 0>2=1 2>1=1", impl.MeasureLength, nil, impl.Edge{From: 2, To: 1}, []int{0, 2, 1}, []int{-1, 0, 0}, 0},
		{"an edge between nodes that are not reached", "3 1>2=1 2>1=1", impl.MeasureWidth, nil, impl.Edge{From: 1, To: 2}, []int{100000, 0, 0}, []int{-1, -1, -1}, 0},
		{"an edge to the source", "2 0>1=1 1>0=1", impl.MeasureReach, nil, impl.Edge{From: 1, To: 0}, []int{1, 1}, []int{-1, 0}, 0},
		{"an edge of the tree, and one is as good", "3 0>1=2 0>2=1 2>1=1", impl.MeasureLength, nil, impl.Edge{From: 0, To: 1}, []int{0, 2, 1}, []int{-1, 2, 0}, 1},
		{"an edge of a tree that is not that of BestFirst", "3 0>1=2 0>2=1 2>1=1", impl.MeasureLength, []int{-1, 2, 0}, impl.Edge{From: 2, To: 1}, []int{0, 2, 1}, []int{-1, 0, 0}, 1},
		{"an edge with a node below", "4 0>1=5 0>2=3 1>3=1 2>1=1", impl.MeasureLength, nil, impl.Edge{From: 2, To: 1}, []int{0, 5, 3, 6}, []int{-1, 0, 0, 1}, 2},
		{"the only edge to a node", "4 0>1=5 1>2=1 2>3=1", impl.MeasureLength, nil, impl.Edge{From: 1, To: 2}, []int{0, 5, 100000, 100000}, []int{-1, 0, -1, -1}, 2},
		{"nodes that are looked at without effect", "4 0>1=5 0>3=1 1>2=7 2>3=1", impl.MeasurePeak, nil, impl.Edge{From: 1, To: 2}, []int{0, 5, 100000, 1}, []int{-1, 0, -1, 0}, 1},
		{"a cycle whose nodes hold each other up", "4 0>1=5 1>2=1 2>1=1 2>3=1", impl.MeasureLength, nil, impl.Edge{From: 0, To: 1}, []int{0, 100000, 100000, 100000}, []int{-1, -1, -1, -1}, 3},
		{"a wide cycle whose nodes hold each other up", "4 0>1=5 1>2=9 2>1=9 2>3=7", impl.MeasureWidth, nil, impl.Edge{From: 0, To: 1}, []int{100000, 0, 0, 0}, []int{-1, -1, -1, -1}, 3},
		{"a wide cycle with another way to it", "3 0>1=5 0>2=3 1>2=9 2>1=9", impl.MeasureWidth, nil, impl.Edge{From: 0, To: 1}, []int{100000, 3, 3}, []int{-1, 2, 0}, 2},
		{"the edge that does not hold a wide cycle up", "3 0>1=5 0>2=3 1>2=9 2>1=9", impl.MeasureWidth, nil, impl.Edge{From: 0, To: 2}, []int{100000, 5, 5}, []int{-1, 0, 1}, 0},
		// The node 2 gets 9 from 0, and 6 from 3, which is settled in front of it.
		{"a value that is improved", "4 0>1=1 0>2=9 0>3=4 1>2=1 1>3=1 3>2=2", impl.MeasureLength, nil, impl.Edge{From: 0, To: 1}, []int{0, 100000, 6, 4}, []int{-1, -1, 3, 0}, 3},
		{"several edges that are as good", "4 0>1=2 0>2=2 0>3=1 1>3=2 2>3=2", impl.MeasureLength, nil, impl.Edge{From: 0, To: 3}, []int{0, 2, 2, 4}, []int{-1, 0, 0, 1}, 1},
		{"several edges, the last one the best", "4 0>1=2 0>2=2 0>3=1 1>3=3 2>3=2", impl.MeasureLength, nil, impl.Edge{From: 0, To: 3}, []int{0, 2, 2, 4}, []int{-1, 0, 0, 2}, 1},
		// The nodes 1 and 2 have the same value, and 1 is settled first.
		{"nodes with the same value", "5 0>1=5 0>2=5 0>4=1 1>3=1 2>3=1 4>1=1 4>2=1", impl.MeasureLength, []int{-1, 4, 4, 2, 0}, impl.Edge{From: 0, To: 4}, []int{0, 5, 5, 6, 100000}, []int{-1, 0, 0, 1, -1}, 4},
	}
	for _, c := range cases {
		c.check(t)
	}
}

func TestEdgesThatAreBetter(t *testing.T) {
	cases := []changeOfKept{
		{"a new edge, with a node below", "4 0>1=5 0>2=3 1>3=1", impl.MeasureLength, nil, impl.Edge{From: 2, To: 1, Weight: 1}, []int{0, 4, 3, 5}, []int{-1, 2, 0, 1}, 2},
		{"a new edge that is as good", "4 0>1=5 0>2=3 1>3=1", impl.MeasureLength, nil, impl.Edge{From: 2, To: 1, Weight: 2}, []int{0, 5, 3, 6}, []int{-1, 0, 0, 1}, 0},
		{"a new edge that is worse", "4 0>1=5 0>2=3 1>3=1", impl.MeasureLength, nil, impl.Edge{From: 2, To: 1, Weight: 3}, []int{0, 5, 3, 6}, []int{-1, 0, 0, 1}, 0},
		{"a new edge from a node that is not reached", "3 1>2=1", impl.MeasureWidth, nil, impl.Edge{From: 2, To: 1, Weight: 1}, []int{100000, 0, 0}, []int{-1, -1, -1}, 0},
		{"a new edge to nodes that are not reached", "4 1>2=1 2>1=1 2>3=1", impl.MeasureLength, nil, impl.Edge{From: 0, To: 2, Weight: 7}, []int{0, 8, 7, 8}, []int{-1, 2, 0, 2}, 3},
		{"a new edge in a graph without edges", "2", impl.MeasurePeak, nil, impl.Edge{From: 0, To: 1, Weight: 999}, []int{0, 999}, []int{-1, 0}, 1},
		{"an edge with the same weight", "3 0>1=5 1>2=1", impl.MeasureLength, nil, impl.Edge{From: 0, To: 1, Weight: 5}, []int{0, 5, 6}, []int{-1, 0, 1}, 0},
		{"an edge of the tree", "3 0>1=5 1>2=1", impl.MeasureLength, nil, impl.Edge{From: 0, To: 1, Weight: 2}, []int{0, 2, 3}, []int{-1, 0, 1}, 2},
		{"a wider edge of the tree", "3 0>1=5 1>2=3", impl.MeasureWidth, nil, impl.Edge{From: 0, To: 1, Weight: 9}, []int{100000, 9, 3}, []int{-1, 0, 1}, 1},
		{"an edge of the tree that is wider than the way to it", "3 0>1=3 1>2=5", impl.MeasureWidth, nil, impl.Edge{From: 1, To: 2, Weight: 9}, []int{100000, 3, 3}, []int{-1, 0, 1}, 0},
		{"an edge that is not in the tree, and still not", "3 0>1=9 0>2=1 2>1=1", impl.MeasureLength, nil, impl.Edge{From: 0, To: 1, Weight: 3}, []int{0, 2, 1}, []int{-1, 2, 0}, 0},
		{"an edge that is not in the tree, and then as good", "3 0>1=9 0>2=1 2>1=1", impl.MeasureLength, nil, impl.Edge{From: 0, To: 1, Weight: 2}, []int{0, 2, 1}, []int{-1, 2, 0}, 0},
		{"an edge that is not in the tree, and then better", "3 0>1=9 0>2=1 2>1=1", impl.MeasureLength, nil, impl.Edge{From: 0, To: 1, Weight: 1}, []int{0, 1, 1}, []int{-1, 0, 0}, 1},
		// The node 2 gets 6 from 1, and 4 from 3, which is settled in front of it.
		{"a value that is improved twice", "4 0>2=9 1>2=5 1>3=2 3>2=1", impl.MeasureLength, nil, impl.Edge{From: 0, To: 1, Weight: 1}, []int{0, 1, 4, 3}, []int{-1, 0, 3, 1}, 3},
		{"a cycle behind the edge", "4 0>1=5 1>2=9 2>1=9 2>3=7", impl.MeasureWidth, nil, impl.Edge{From: 0, To: 2, Weight: 8}, []int{100000, 8, 8, 7}, []int{-1, 2, 0, 2}, 3},
	}
	for _, c := range cases {
		c.check(t)
	}
	for _, k := range allKinds() {
		c := changeOfKept{k.name + ": a new edge to the source", "2 0>1=1", k.m, nil, impl.Edge{From: 1, To: 0, Weight: 1}, viewOf(t, graphOf(t, "2 0>1=1"), k.m, 0).Values, []int{-1, 0}, 0}
		c.check(t)
	}
}

func TestEdgesThatGetWorse(t *testing.T) {
	cases := []changeOfKept{
		{"an edge of the tree, with a node below", "4 0>1=5 0>2=3 1>3=1 2>1=1", impl.MeasureLength, nil, impl.Edge{From: 2, To: 1, Weight: 50}, []int{0, 5, 3, 6}, []int{-1, 0, 0, 1}, 2},
		{"an edge of the tree that is then only as good", "4 0>1=5 0>2=3 1>3=1 2>1=1", impl.MeasureLength, nil, impl.Edge{From: 2, To: 1, Weight: 2}, []int{0, 5, 3, 6}, []int{-1, 0, 0, 1}, 2},
		{"an edge of the tree that is still better", "4 0>1=6 0>2=3 1>3=1 2>1=1", impl.MeasureLength, nil, impl.Edge{From: 2, To: 1, Weight: 2}, []int{0, 5, 3, 6}, []int{-1, 2, 0, 1}, 2},
		{"the only edge to a node", "3 0>1=5 1>2=1", impl.MeasureLength, nil, impl.Edge{From: 0, To: 1, Weight: 999}, []int{0, 999, 1000}, []int{-1, 0, 1}, 2},
		{"an edge that is not in the tree", "4 0>1=5 0>2=3 1>3=1 2>1=1", impl.MeasureLength, nil, impl.Edge{From: 0, To: 1, Weight: 6}, []int{0, 4, 3, 5}, []int{-1, 2, 0, 1}, 0},
		{"an edge that was as good, but not in the tree", "3 0>1=2 0>2=1 2>1=1", impl.MeasureLength, nil, impl.Edge{From: 2, To: 1, Weight: 2}, []int{0, 2, 1}, []int{-1, 0, 0}, 0},
		{"a narrower edge, still the widest way", "3 0>1=5 0>2=3 1>2=9", impl.MeasureWidth, nil, impl.Edge{From: 0, To: 1, Weight: 4}, []int{100000, 4, 4}, []int{-1, 0, 1}, 2},
		{"a narrower edge, then only a side way", "3 0>1=5 0>2=3 1>2=9", impl.MeasureWidth, nil, impl.Edge{From: 0, To: 1, Weight: 2}, []int{100000, 2, 3}, []int{-1, 0, 0}, 2},
		{"a narrower edge that is as wide as the way to it", "3 0>1=5 1>2=9", impl.MeasureWidth, nil, impl.Edge{From: 1, To: 2, Weight: 5}, []int{100000, 5, 5}, []int{-1, 0, 1}, 1},
		{"a peak that is behind another one", "3 0>1=5 1>2=9", impl.MeasurePeak, nil, impl.Edge{From: 0, To: 1, Weight: 8}, []int{0, 8, 9}, []int{-1, 0, 1}, 2},
		{"a wide cycle whose nodes hold each other up", "4 0>1=5 1>2=9 2>1=9 2>3=7", impl.MeasureWidth, nil, impl.Edge{From: 0, To: 1, Weight: 1}, []int{100000, 1, 1, 1}, []int{-1, 0, 1, 2}, 3},
		{"a peak in a cycle whose nodes hold each other up", "4 0>1=5 1>2=1 2>1=1 2>3=7", impl.MeasurePeak, nil, impl.Edge{From: 0, To: 1, Weight: 6}, []int{0, 6, 6, 7}, []int{-1, 0, 1, 2}, 3},
		// For these kinds, no edge is worse than another one.
		{"the hops of a heavier edge", "3 0>1=5 1>2=7", impl.MeasureHops, nil, impl.Edge{From: 0, To: 1, Weight: 999}, []int{0, 1, 2}, []int{-1, 0, 1}, 0},
		{"the hops of a lighter edge", "3 0>1=5 1>2=7", impl.MeasureHops, nil, impl.Edge{From: 0, To: 1, Weight: 1}, []int{0, 1, 2}, []int{-1, 0, 1}, 0},
		{"the reach of a heavier edge", "3 0>1=5 1>2=7", impl.MeasureReach, nil, impl.Edge{From: 0, To: 1, Weight: 999}, []int{1, 1, 1}, []int{-1, 0, 1}, 0},
		{"the reach of a lighter edge", "3 0>1=5 1>2=7", impl.MeasureReach, nil, impl.Edge{From: 0, To: 1, Weight: 1}, []int{1, 1, 1}, []int{-1, 0, 1}, 0},
	}
	for _, c := range cases {
		c.check(t)
	}
}

// TestCyclesThatAreCutOff cuts the only edge to a cycle, and puts it again.
func TestCyclesThatAreCutOff(t *testing.T) {
	for _, kind := range allKinds() {
		for nodes := 3; nodes <= impl.MaxNodes; nodes++ {
			// A ring of the nodes from 1 on, with an edge from 0 to one of them.
			g := impl.Graph{Nodes: nodes}
			for node := 2; node < nodes; node++ {
				g.Edges = append(g.Edges, impl.Edge{From: node - 1, To: node, Weight: impl.MaxWeight})
			}
			g.Edges = append(g.Edges, impl.Edge{From: nodes - 1, To: 1, Weight: impl.MaxWeight})
			without := impl.Kept{Graph: g, View: startOf(kind, nodes, 0), Parents: slices.Repeat([]int{-1}, nodes)}
			for entry := 1; entry < nodes; entry++ {
				e := impl.Edge{From: 0, To: entry, Weight: 5}
				what := fmt.Sprintf("%s: a cycle of %d nodes behind %d", kind.name, nodes-1, entry)
				put, looked, ok := impl.PutKept(without, e)
				with := keepView(t, put.Graph, kind.m, 0)
				wantLooked(t, what, put, looked, ok, with, nodes-1)
				wantNumbers(t, what+": the nodes that are reached", impl.ReachedNodes(put.Graph, put.View), ok, firstNodes(nodes)...)
				cut, looked, ok := impl.CutKept(put, 0, entry)
				wantLooked(t, what+", cut off", cut, looked, ok, without, nodes-1)
			}
		}
	}
}

func firstNodes(count int) []int {
	var nodes []int
	for node := range count {
		nodes = append(nodes, node)
	}
	return nodes
}

// wantAllChanges makes each change to k that can be made, with all weights, and checks it against what the document says.
func wantAllChanges(t *testing.T, k impl.Kept, weights ...int) {
	t.Helper()
	for from := range k.Graph.Nodes {
		for to := range k.Graph.Nodes {
			what := fmt.Sprintf("%s: %d>%d", describe(k), from, to)
			if _, there := impl.WeightOf(k.Graph, from, to); there {
				want, count := cutByScans(t, k, from, to)
				got, looked, ok := impl.CutKept(k, from, to)
				wantLooked(t, what+", cut", got, looked, ok, want, count)
				wantRightKept(t, what+", cut", got)
			}
			for _, weight := range weights {
				if from != to {
					e := impl.Edge{From: from, To: to, Weight: weight}
					want, count := putByScans(t, k, e)
					got, looked, ok := impl.PutKept(k, e)
					wantLooked(t, fmt.Sprintf("%s, put with %d", what, weight), got, looked, ok, want, count)
					wantRightKept(t, fmt.Sprintf("%s, put with %d", what, weight), got)
				}
			}
		}
	}
}

// wantRightKept checks that a kept view is the right one, and valid.
func wantRightKept(t *testing.T, what string, k impl.Kept) {
	t.Helper()
	right, ok := impl.ViewOf(k.Graph, k.View.Measure, k.View.Source)
	if !ok || !impl.ViewSame(k.View, right) || !impl.KeptValid(k) {
		t.Errorf("%s: %s is not right or not valid, want %v", what, describe(k), right)
	}
}

func TestChangesLikeScans(t *testing.T) {
	random := rand.New(rand.NewSource(63))
	for range 30 {
		for _, kind := range allKinds() {
			k := kind.randomKept(t, random)
			if len(k.Graph.Edges) < impl.MaxEdges {
				wantAllChanges(t, k, 1, 1+random.Intn(12), impl.MaxWeight)
			}
		}
	}
}

// TestLooksAreFew checks that all nodes that change are looked at, and none that is neither below the edge nor improved.
func TestLooksAreFew(t *testing.T) {
	random := rand.New(rand.NewSource(64))
	for range 200 {
		for _, kind := range allKinds() {
			k := kind.randomKept(t, random)
			if len(k.Graph.Edges) == 0 {
				continue
			}
			e := k.Graph.Edges[random.Intn(len(k.Graph.Edges))]
			below, ok := impl.NodesBelow(k, e.To)
			cut, looked, fine := impl.CutKept(k, e.From, e.To)
			what := fmt.Sprintf("%s without %v", describe(k), e)
			switch {
			case !ok || !fine:
				t.Errorf("%s is not cut", what)
			case k.Parents[e.To] != e.From:
				wantLooked(t, what, cut, looked, fine, impl.Kept{Graph: cut.Graph, View: k.View, Parents: k.Parents}, 0)
			default:
				wantValue(t, what+": the nodes that were looked at", looked, fine, len(below))
				wantOthersAsBefore(t, what, k, cut, below)
			}
			back, looked, fine := impl.PutKept(cut, e)
			var improved []int
			for node := range back.View.Values {
				if back.View.Values[node] != cut.View.Values[node] {
					improved = append(improved, node)
				}
			}
			wantValue(t, what+", put again: the nodes that were looked at", looked, fine, len(improved))
			wantOthersAsBefore(t, what+", put again", cut, back, improved)
		}
	}
}

// wantOthersAsBefore checks that only these nodes have other values or parents than before.
func wantOthersAsBefore(t *testing.T, what string, before impl.Kept, behind impl.Kept, nodes []int) {
	t.Helper()
	for node := range before.Parents {
		changes := before.View.Values[node] != behind.View.Values[node] || before.Parents[node] != behind.Parents[node]
		if changes && !slices.Contains(nodes, node) {
			t.Errorf("%s: the node %d is not one of %v, and changes from %v to %v", what, node, nodes, before, behind)
		}
	}
}

func TestKeptAtLimits(t *testing.T) {
	last := impl.MaxNodes - 1
	full := greatestGraph()
	for _, kind := range allKinds() {
		for _, source := range []int{0, last} {
			k := keepView(t, full, kind.m, source)
			what := fmt.Sprintf("%s: the greatest graph from %d", kind.name, source)
			wantRightKept(t, what, k)
			for _, e := range full.Edges {
				e.Weight = impl.MaxWeight
				want, count := putByScans(t, k, e)
				got, looked, ok := impl.PutKept(k, e)
				wantLooked(t, what+": the greatest weight", got, looked, ok, want, count)
				e.Weight++
				got, looked, ok = impl.PutKept(k, e)
				wantNothingLooked(t, what+": one more than the greatest weight", got, looked, ok)
			}
			got, looked, ok := impl.PutKept(k, impl.Edge{From: last, To: 0, Weight: 1})
			wantNothingLooked(t, what+": one edge more", got, looked, ok)
			fewer, _, ok := impl.CutKept(k, full.Edges[impl.MaxEdges-1].From, full.Edges[impl.MaxEdges-1].To)
			wantRightKept(t, what+": one edge fewer", fewer)
			want, count := putByScans(t, fewer, impl.Edge{From: last, To: 0, Weight: 1})
			got, looked, fine := impl.PutKept(fewer, impl.Edge{From: last, To: 0, Weight: 1})
			wantLooked(t, what+": another edge", got, looked, ok && fine, want, count)
			got, looked, ok = impl.PutKept(fewer, impl.Edge{From: last, To: impl.MaxNodes, Weight: 1})
			wantNothingLooked(t, what+": one past the last node", got, looked, ok)
		}
	}
}

// TestTheLongestTree has as many nodes below each other as there can be.
func TestTheLongestTree(t *testing.T) {
	last := impl.MaxNodes - 1
	long := row(impl.MaxNodes, impl.MaxWeight)
	for _, kind := range allKinds() {
		k := keepView(t, long, kind.m, 0)
		path, ok := impl.KeptPath(k, last)
		wantNumbers(t, kind.name+": the longest path", path, ok, firstNodes(impl.MaxNodes)...)
		below, ok := impl.NodesBelow(k, 0)
		wantNumbers(t, kind.name+": all nodes", below, ok, firstNodes(impl.MaxNodes)...)
		tree, ok := impl.TreeEdges(k)
		wantEdges(t, kind.name+": the longest tree", tree, ok, long.Edges...)
		got, looked, ok := impl.CutKept(k, 0, 1)
		cut := impl.Graph{Nodes: impl.MaxNodes, Edges: long.Edges[1:]}
		nothing := impl.Kept{Graph: cut, View: startOf(kind, impl.MaxNodes, 0), Parents: slices.Repeat([]int{-1}, impl.MaxNodes)}
		wantLooked(t, kind.name+": without its first edge", got, looked, ok, nothing, last)
		got, looked, ok = impl.PutKept(got, impl.Edge{From: 0, To: 1, Weight: impl.MaxWeight})
		wantLooked(t, kind.name+": with it again", got, looked, ok, k, last)
	}
}

func TestChangesThatAreNone(t *testing.T) {
	edges := []impl.Edge{
		{}, {From: 1, To: 1, Weight: 5}, {From: 3, To: 1, Weight: 5}, {From: 1, To: 3, Weight: 5}, {From: -1, To: 1, Weight: 5}, {From: 1, To: -1, Weight: 5},
		{From: 0, To: 1, Weight: 0}, {From: 0, To: 1, Weight: -1}, {From: 0, To: 1, Weight: 1000}, {From: 0, To: 2, Weight: 0}, {From: 0, To: 2, Weight: 1000},
		{From: math.MinInt, To: 1, Weight: 5}, {From: 1, To: math.MaxInt, Weight: 5}, {From: 0, To: 1, Weight: math.MinInt}, {From: 0, To: 1, Weight: math.MaxInt},
	}
	ends := [][2]int{{1, 0}, {0, 2}, {2, 0}, {0, 0}, {2, 1}, {-1, 1}, {-1, 0}, {0, -1}, {3, 0}, {0, 3}, {math.MinInt, 1}, {0, math.MaxInt}}
	for _, text := range []string{"3", "3 0>1=5 1>2=7"} {
		for _, kind := range allKinds() {
			k := keepView(t, graphOf(t, text), kind.m, 0)
			for _, e := range edges {
				got, looked, ok := impl.PutKept(k, e)
				wantNothingLooked(t, fmt.Sprintf("%s: %q with %v", kind.name, text, e), got, looked, ok)
			}
			for _, e := range ends {
				got, looked, ok := impl.CutKept(k, e[0], e[1])
				wantNothingLooked(t, fmt.Sprintf("%s: %q without %v", kind.name, text, e), got, looked, ok)
			}
		}
	}
}

func TestKeptArgumentsAreKept(t *testing.T) {
	for _, kind := range allKinds() {
		// What is behind the lengths tells whether a function writes there.
		all := firstEdges(4, 12)
		g := impl.Graph{Nodes: 4, Edges: all[:9]}
		k := keepView(t, g, kind.m, 0)
		values, parents := append(k.View.Values, 7, 7, 7), append(k.Parents, 8, 8, 8)
		k = impl.Kept{Graph: g, View: impl.View{Measure: kind.m, Values: values[:4]}, Parents: parents[:4]}
		beforeValues, beforeParents := slices.Clone(values), slices.Clone(parents)
		results := changedInAllWays(k)
		copies := changedInAllWays(k)
		for i, r := range results {
			if !sameKept(r, copies[i]) {
				t.Errorf("%s: the result %d changed with another one, from %v to %v", kind.name, i, copies[i], r)
			}
			overwrite(r)
		}
		below, _ := impl.NodesBelow(k, 0)
		path, _ := impl.KeptPath(k, 3)
		tree, _ := impl.TreeEdges(k)
		overwrite(impl.Kept{Graph: impl.Graph{Edges: tree}, View: impl.View{Values: below}, Parents: path})
		if !slices.Equal(values, beforeValues) || !slices.Equal(parents, beforeParents) || !slices.Equal(all, firstEdges(4, 12)) {
			t.Errorf("%s: the arguments became %v, %v and %v", kind.name, values, parents, all)
		}
		for i, r := range changedInAllWays(k) {
			wantKept(t, fmt.Sprintf("%s: the result %d behind changes of results", kind.name, i), r, true, copies[i])
		}
	}
}

// changedInAllWays are k kept anew, and with each edge of four nodes put with a small and with a great weight, and cut.
func changedInAllWays(k impl.Kept) []impl.Kept {
	again, _ := impl.KeepView(k.Graph, k.View.Measure, k.View.Source)
	results := []impl.Kept{again}
	for _, e := range firstEdges(4, 12) {
		light, _, _ := impl.PutKept(k, impl.Edge{From: e.From, To: e.To, Weight: 1})
		heavy, _, _ := impl.PutKept(k, impl.Edge{From: e.From, To: e.To, Weight: 500})
		cut, _, _ := impl.CutKept(k, e.From, e.To)
		results = append(results, light, heavy, cut)
	}
	return results
}

// overwrite changes all memory of k, also that behind the lengths.
func overwrite(k impl.Kept) {
	edges := k.Graph.Edges[:cap(k.Graph.Edges)]
	for i := range edges {
		edges[i] = impl.Edge{From: 77, To: 77, Weight: 77}
	}
	for _, numbers := range [][]int{k.View.Values[:cap(k.View.Values)], k.Parents[:cap(k.Parents)]} {
		for i := range numbers {
			numbers[i] = 77
		}
	}
}

// TestPromise6 makes many changes one after the other, and checks the view behind each one against all paths.
func TestPromise6(t *testing.T) {
	random := rand.New(rand.NewSource(666))
	for range 12 {
		for _, kind := range allKinds() {
			nodes := 1 + random.Intn(impl.MaxNodes)
			weight := []int{1, 3, 30, impl.MaxWeight}[random.Intn(4)]
			g := randomGraph(random, nodes, random.Intn(2*nodes), weight)
			k := keepView(t, g, kind.m, random.Intn(nodes))
			for range 60 {
				k = changedAtRandom(t, random, k, weight)
				what := describe(k)
				wantNumbers(t, what, k.View.Values, true, kind.bestByPaths(t, k.Graph, k.View.Source)...)
				if !impl.KeptValid(k) || !validByScans(t, k) {
					t.Fatalf("%s is not valid", what)
				}
			}
		}
	}
}

// changedAtRandom puts a random edge, or cuts one if there are many, and checks the graph and the number of nodes that were looked at.
func changedAtRandom(t *testing.T, random *rand.Rand, k impl.Kept, weight int) impl.Kept {
	t.Helper()
	if edges := k.Graph.Edges; len(edges) > 0 && random.Intn(3*k.Graph.Nodes) < len(edges) {
		e := edges[random.Intn(len(edges))]
		want, count := cutByScans(t, k, e.From, e.To)
		got, looked, ok := impl.CutKept(k, e.From, e.To)
		wantLooked(t, fmt.Sprintf("%s without %v", describe(k), e), got, looked, ok, want, count)
		return want
	}
	e := impl.Edge{From: random.Intn(k.Graph.Nodes), To: random.Intn(k.Graph.Nodes), Weight: 1 + random.Intn(weight)}
	if e.From == e.To {
		return k
	}
	want, count := putByScans(t, k, e)
	got, looked, ok := impl.PutKept(k, e)
	wantLooked(t, fmt.Sprintf("%s with %v", describe(k), e), got, looked, ok, want, count)
	return want
}

// TestPromise6InSmallGraphs makes all changes to all graphs with three nodes and weights up to 2.
func TestPromise6InSmallGraphs(t *testing.T) {
	for _, g := range allGraphs(3, firstEdges(3, 6), 2) {
		for _, kind := range allKinds() {
			wantAllChanges(t, keepView(t, g, kind.m, 0), 1, 2)
		}
	}
}
