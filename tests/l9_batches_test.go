package tests

import (
	"fmt"
	"math"
	"math/rand"
	"slices"
	"testing"

	"loop.example/graphviews/impl"
)

// maxChanges is the greatest number of changes that a list can have.
const maxChanges = 60

func put(from int, to int, weight int) impl.Change {
	return impl.Change{Edge: impl.Edge{From: from, To: to, Weight: weight}}
}

func cut(from int, to int) impl.Change {
	return impl.Change{Cut: true, Edge: impl.Edge{From: from, To: to}}
}

func changes(list ...impl.Change) []impl.Change { return list }

func wantChanges(t *testing.T, what string, got []impl.Change, ok bool, want ...impl.Change) {
	t.Helper()
	if !ok || !slices.Equal(got, want) {
		t.Errorf("%s = %v, %v, want %v, true", what, got, ok, want)
	}
}

func wantNoChanges(t *testing.T, what string, got []impl.Change, ok bool) {
	t.Helper()
	if ok || len(got) != 0 {
		t.Errorf("%s = %v, %v, want no changes, false", what, got, ok)
	}
}

// applied fails the test if the changes cannot be made.
func applied(t *testing.T, g impl.Graph, list []impl.Change) impl.Graph {
	t.Helper()
	h, ok := impl.ApplyChanges(g, list)
	if !ok {
		t.Fatalf("%v are not made to %q", list, impl.FormatGraph(g))
	}
	return h
}

// changesWithout is list without one of its changes.
func changesWithout(list []impl.Change, place int) []impl.Change {
	return slices.Delete(slices.Clone(list), place, place+1)
}

// appliedByScans does what the document says of ApplyChanges.
func appliedByScans(g impl.Graph, list []impl.Change) (impl.Graph, bool) {
	if !impl.GraphValid(g) || len(list) > maxChanges {
		return impl.Graph{}, false
	}
	for _, c := range list {
		var ok bool
		if !c.Cut {
			g, ok = impl.PutEdge(g, c.Edge)
		} else if c.Edge.Weight == 0 {
			g, ok = impl.CutEdge(g, c.Edge.From, c.Edge.To)
		}
		if !ok {
			return impl.Graph{}, false
		}
	}
	return g, true
}

// diffByScans does what the document says of DiffGraphs with valid graphs that have the same number of nodes.
func diffByScans(a impl.Graph, b impl.Graph) []impl.Change {
	var list []impl.Change
	for _, e := range a.Edges {
		if _, there := impl.WeightOf(b, e.From, e.To); !there {
			list = append(list, cut(e.From, e.To))
		}
	}
	for _, e := range b.Edges {
		if weight, there := impl.WeightOf(a, e.From, e.To); !there || weight != e.Weight {
			list = append(list, put(e.From, e.To, e.Weight))
		}
	}
	return list
}

// keptByScans does what the document says of KeepBatch with changes that can be made.
func keptByScans(t *testing.T, k impl.Kept, list []impl.Change) (impl.Kept, int) {
	t.Helper()
	all := 0
	for _, c := range list {
		var looked int
		if c.Cut {
			k, looked = cutByScans(t, k, c.Edge.From, c.Edge.To)
		} else {
			k, looked = putByScans(t, k, c.Edge)
		}
		all += looked
	}
	return k, all
}

// changedByScans are the nodes with different values of two views with the same number of them.
func changedByScans(a impl.View, b impl.View) []int {
	return slices.DeleteFunc(firstNodes(len(a.Values)), func(node int) bool { return a.Values[node] == b.Values[node] })
}

// randomChange can be made to g, and often is one to an edge that g has.
func randomChange(random *rand.Rand, g impl.Graph, weight int) (impl.Change, bool) {
	if edges := g.Edges; len(edges) > 0 && random.Intn(2) == 0 {
		e := edges[random.Intn(len(edges))]
		if random.Intn(3) > 0 {
			return cut(e.From, e.To), true
		}
		return put(e.From, e.To, 1+random.Intn(weight)), true
	}
	c := put(random.Intn(g.Nodes), random.Intn(g.Nodes), 1+random.Intn(weight))
	return c, impl.ChangesValid(g, changes(c))
}

// randomChanges can be made to g. They are not more than count, and fewer if one that is tried cannot be made.
func randomChanges(random *rand.Rand, g impl.Graph, count int, weight int) []impl.Change {
	var list []impl.Change
	for range count {
		if c, ok := randomChange(random, g, weight); ok {
			list = append(list, c)
			g, _ = impl.ApplyChanges(g, changes(c))
		}
	}
	return list
}

// wantNoBatch checks the results for changes that cannot be made to a graph.
func wantNoBatch(t *testing.T, what string, g impl.Graph, list []impl.Change) {
	t.Helper()
	if impl.ChangesValid(g, list) {
		t.Errorf("%s: %v are valid", what, list)
	}
	h, ok := impl.ApplyChanges(g, list)
	wantNoGraph(t, what+": ApplyChanges", h, ok)
	got, ok := impl.NetChanges(g, list)
	wantNoChanges(t, what+": NetChanges", got, ok)
	got, ok = impl.UndoChanges(g, list)
	wantNoChanges(t, what+": UndoChanges", got, ok)
	for _, kind := range allKinds() {
		k, ok := impl.KeepView(g, kind.m, 0)
		if ok {
			got, looked, ok := impl.KeepBatch(k, list)
			wantNothingLooked(t, fmt.Sprintf("%s: KeepBatch with %s", what, kind.name), got, looked, ok)
		}
	}
}

// wantBatchLikeScans compares all functions with transcriptions of the document for changes that can be made.
func wantBatchLikeScans(t *testing.T, g impl.Graph, list []impl.Change) {
	t.Helper()
	what := fmt.Sprintf("%v of %q", list, impl.FormatGraph(g))
	want, fine := appliedByScans(g, list)
	if !fine || !impl.ChangesValid(g, list) {
		t.Errorf("%s are not valid", what)
		return
	}
	got, ok := impl.ApplyChanges(g, list)
	wantGraph(t, "ApplyChanges with "+what, got, ok, impl.FormatGraph(want))
	net, ok := impl.NetChanges(g, list)
	wantChanges(t, "NetChanges with "+what, net, ok, diffByScans(g, want)...)
	undo, ok := impl.UndoChanges(g, list)
	wantChanges(t, "UndoChanges with "+what, undo, ok, diffByScans(want, g)...)
}

func TestBatchExample(t *testing.T) {
	for _, text := range []string{"3", "3 0>1=5", "3 0>1=5 2>1=3"} {
		g := graphOf(t, text)
		list := changes(put(1, 2, 7), cut(1, 2))
		got, ok := impl.NetChanges(g, list)
		wantChanges(t, "an edge that is put and cut again", got, ok)
		got, ok = impl.UndoChanges(g, list)
		wantChanges(t, "undoing an edge that is put and cut again", got, ok)
		h, ok := impl.ApplyChanges(g, list)
		wantGraph(t, "the graph", h, ok, text)
	}
}

// batchCase is a list of changes with the graph behind it, and with its net changes and those that undo it.
type batchCase struct {
	what   string
	text   string
	list   []impl.Change
	result string
	net    []impl.Change
	undo   []impl.Change
}

func (c batchCase) check(t *testing.T) {
	t.Helper()
	g := graphOf(t, c.text)
	if !impl.ChangesValid(g, c.list) {
		t.Errorf("%s: %v are not valid", c.what, c.list)
	}
	got, ok := impl.ApplyChanges(g, c.list)
	wantGraph(t, c.what+": ApplyChanges", got, ok, c.result)
	net, ok := impl.NetChanges(g, c.list)
	wantChanges(t, c.what+": NetChanges", net, ok, c.net...)
	undo, ok := impl.UndoChanges(g, c.list)
	wantChanges(t, c.what+": UndoChanges", undo, ok, c.undo...)
}

func TestBatches(t *testing.T) {
	text := "3 0>1=5 1>2=7"
	cases := []batchCase{
		{"no changes", text, nil, text, nil, nil},
		{"no changes, of one node", "1", changes(), "1", nil, nil},
		{"a new edge", text, changes(put(0, 2, 9)), "3 0>1=5 0>2=9 1>2=7", changes(put(0, 2, 9)), changes(cut(0, 2))},
		{"a new edge in front of all", "3 1>2=7", changes(put(0, 1, 1)), "3 0>1=1 1>2=7", changes(put(0, 1, 1)), changes(cut(0, 1))},
		{"a new edge behind all", text, changes(put(2, 1, 999)), "3 0>1=5 1>2=7 2>1=999", changes(put(2, 1, 999)), changes(cut(2, 1))},
		{"an edge the other way round", text, changes(put(1, 0, 5)), "3 0>1=5 1>0=5 1>2=7", changes(put(1, 0, 5)), changes(cut(1, 0))},
		{"another weight", text, changes(put(1, 2, 8)), "3 0>1=5 1>2=8", changes(put(1, 2, 8)), changes(put(1, 2, 7))},
		{"the same weight", text, changes(put(1, 2, 7)), text, nil, nil},
		{"an edge that is cut", text, changes(cut(0, 1)), "3 1>2=7", changes(cut(0, 1)), changes(put(0, 1, 5))},
		{"all edges cut", text, changes(cut(1, 2), cut(0, 1)), "3", changes(cut(0, 1), cut(1, 2)), changes(put(0, 1, 5), put(1, 2, 7))},
		{"all edges put", "3", changes(put(1, 2, 7), put(0, 1, 5)), text, changes(put(0, 1, 5), put(1, 2, 7)), changes(cut(0, 1), cut(1, 2))},
		// An edge that is put twice.
		{"an edge that is put twice", text, changes(put(0, 2, 9), put(0, 2, 9)), "3 0>1=5 0>2=9 1>2=7", changes(put(0, 2, 9)), changes(cut(0, 2))},
		{"an edge that is put twice, with two weights", text, changes(put(0, 2, 9), put(0, 2, 4)), "3 0>1=5 0>2=4 1>2=7", changes(put(0, 2, 4)), changes(cut(0, 2))},
		{"an edge with another weight twice", text, changes(put(0, 1, 9), put(0, 1, 4)), "3 0>1=4 1>2=7", changes(put(0, 1, 4)), changes(put(0, 1, 5))},
		{"an edge with the same weight twice", text, changes(put(0, 1, 5), put(0, 1, 5)), text, nil, nil},
		{"an edge put twice, with another change between", text, changes(put(0, 2, 9), cut(0, 1), put(0, 2, 4)), "3 0>2=4 1>2=7", changes(cut(0, 1), put(0, 2, 4)), changes(cut(0, 2), put(0, 1, 5))},
		{"an edge put, cut and put again", text, changes(put(0, 2, 9), cut(0, 2), put(0, 2, 4)), "3 0>1=5 0>2=4 1>2=7", changes(put(0, 2, 4)), changes(cut(0, 2))},
		// A change back.
		{"a weight that is put back", text, changes(put(0, 1, 9), put(0, 1, 5)), text, nil, nil},
		{"an edge that is cut and put back", text, changes(cut(0, 1), put(0, 1, 5)), text, nil, nil},
		{"an edge that is cut and put with another weight", text, changes(cut(0, 1), put(0, 1, 6)), "3 0>1=6 1>2=7", changes(put(0, 1, 6)), changes(put(0, 1, 5))},
		{"an edge that gets another weight and is cut", text, changes(put(0, 1, 6), cut(0, 1)), "3 1>2=7", changes(cut(0, 1)), changes(put(0, 1, 5))},
		{"an edge cut, put and cut again", text, changes(cut(0, 1), put(0, 1, 6), cut(0, 1)), "3 1>2=7", changes(cut(0, 1)), changes(put(0, 1, 5))},
		{"all changes back, the last one first", text, changes(cut(1, 2), put(2, 0, 1), put(0, 1, 1), put(0, 1, 5), cut(2, 0), put(1, 2, 7)), text, nil, nil},
		{"all changes back, the first one first", text, changes(cut(1, 2), put(2, 0, 1), put(0, 1, 1), put(1, 2, 7), cut(2, 0), put(0, 1, 5)), text, nil, nil},
		{"one of two changes back", text, changes(cut(0, 1), put(1, 2, 9), put(0, 1, 5)), "3 0>1=5 1>2=9", changes(put(1, 2, 9)), changes(put(1, 2, 7))},
		// Cuts come first, whatever the order was.
		{"a put and a cut behind it", text, changes(put(0, 2, 1), cut(1, 2)), "3 0>1=5 0>2=1", changes(cut(1, 2), put(0, 2, 1)), changes(cut(0, 2), put(1, 2, 7))},
		{"several of both", "4 0>1=1 0>2=2 1>0=3 3>2=4", changes(put(3, 1, 8), put(0, 3, 9), cut(3, 2), put(1, 0, 6), cut(0, 1), put(2, 3, 7)), "4 0>2=2 0>3=9 1>0=6 2>3=7 3>1=8",
			changes(cut(0, 1), cut(3, 2), put(0, 3, 9), put(1, 0, 6), put(2, 3, 7), put(3, 1, 8)), changes(cut(0, 3), cut(2, 3), cut(3, 1), put(0, 1, 1), put(1, 0, 3), put(3, 2, 4))},
	}
	for _, c := range cases {
		c.check(t)
	}
}

func TestBatchesLikeScans(t *testing.T) {
	random := rand.New(rand.NewSource(90))
	for range 300 {
		nodes, weight := 1+random.Intn(impl.MaxNodes), []int{1, 3, impl.MaxWeight}[random.Intn(3)]
		g := randomGraph(random, nodes, random.Intn(impl.MaxEdges+1), weight)
		wantBatchLikeScans(t, g, randomChanges(random, g, random.Intn(maxChanges+1), weight))
	}
}

// TestChangesThatCanOrCannotBeMade has lists of any changes, of which many are not valid.
func TestChangesThatCanOrCannotBeMade(t *testing.T) {
	random := rand.New(rand.NewSource(91))
	valid := 0
	for range 4000 {
		g := randomGraph(random, 1+random.Intn(3), random.Intn(4), 2)
		var list []impl.Change
		for range random.Intn(4) {
			c := put(random.Intn(g.Nodes+2)-1, random.Intn(g.Nodes+1), 1+random.Intn(2))
			if random.Intn(3) == 0 {
				c = impl.Change{Cut: true, Edge: impl.Edge{From: c.Edge.From, To: c.Edge.To, Weight: max(0, random.Intn(5)-3)}}
			}
			list = append(list, c)
		}
		if _, ok := appliedByScans(g, list); ok {
			valid++
			wantBatchLikeScans(t, g, list)
		} else {
			wantNoBatch(t, fmt.Sprintf("%q", impl.FormatGraph(g)), g, list)
		}
	}
	if valid < 1000 || valid > 3000 {
		t.Errorf("%d of 4000 lists are valid", valid)
	}
}

// changesThatAreNone cannot be made to a graph with three nodes that has the edge 0>1, and neither 1>0 nor 2>1.
func changesThatAreNone() []impl.Change {
	list := changes(impl.Change{}, impl.Change{Cut: true}, cut(1, 0), cut(2, 1), cut(1, 1), put(1, 1, 5), put(3, 1, 5), put(1, 3, 5), cut(3, 1), cut(1, 3), cut(12, 13))
	for _, weight := range []int{0, -1, impl.MaxWeight + 1, math.MinInt, math.MaxInt} {
		list = append(list, put(0, 1, weight), put(1, 0, weight))
	}
	for _, node := range []int{-1, math.MinInt, math.MaxInt} {
		list = append(list, put(node, 1, 5), put(1, node, 5), put(node, node, 5), cut(node, 1), cut(0, node))
	}
	// A cut with a weight, also with that of the edge.
	for _, weight := range []int{5, 1, -1, impl.MaxWeight, impl.MaxWeight + 1, math.MinInt, math.MaxInt} {
		list = append(list, impl.Change{Cut: true, Edge: impl.Edge{From: 0, To: 1, Weight: weight}}, impl.Change{Cut: true, Edge: impl.Edge{From: 1, To: 0, Weight: weight}})
	}
	return list
}

func TestChangesThatCannotBeMade(t *testing.T) {
	g := graphOf(t, "3 0>1=5 1>2=7")
	good := changes(put(0, 2, 9), put(0, 1, 4), cut(0, 2), put(2, 0, 1))
	for _, bad := range changesThatAreNone() {
		wantNoBatch(t, "alone", g, changes(bad))
		for place := range len(good) + 1 {
			wantNoBatch(t, fmt.Sprintf("at %d", place), g, slices.Insert(slices.Clone(good), place, bad))
		}
	}
	// What can be made depends on the changes before.
	for _, list := range [][]impl.Change{
		changes(cut(0, 1), cut(0, 1)), changes(cut(0, 2), put(0, 2, 1)), changes(put(0, 2, 1), cut(0, 2), cut(0, 2)), changes(cut(1, 0), put(1, 0, 1)),
		changes(put(0, 1, 5), cut(1, 0)), changes(cut(0, 1), put(1, 0, 1), cut(0, 1)), changes(cut(0, 1), put(0, 1, 5), cut(0, 1), cut(0, 1)),
	} {
		wantNoBatch(t, "an edge that is not there", g, list)
	}
	wantNoBatch(t, "an edge of one node", graphOf(t, "1"), changes(put(0, 1, 1)))
	wantNoBatch(t, "an edge of one node to itself", graphOf(t, "1"), changes(put(0, 0, 1)))
}

func TestBatchesOfInvalidGraphs(t *testing.T) {
	lists := [][]impl.Change{nil, changes(put(0, 1, 5)), changes(put(0, 1, 1), put(0, 2, 1)), changes(cut(0, 1)), changes(cut(1, 1)), changes(cut(0, 2), cut(0, 1)), changes(impl.Change{})}
	for name, g := range invalidGraphs() {
		for _, list := range lists {
			wantNoBatch(t, name, g, list)
		}
		others := []impl.Graph{g, {}, graphOf(t, "1"), graphOf(t, "3"), graphOf(t, "3 0>1=1"), greatestGraph()}
		for _, other := range others {
			got, ok := impl.DiffGraphs(g, other)
			wantNoChanges(t, fmt.Sprintf("DiffGraphs of %s and %v", name, other), got, ok)
			got, ok = impl.DiffGraphs(other, g)
			wantNoChanges(t, fmt.Sprintf("DiffGraphs of %v and %s", other, name), got, ok)
		}
	}
}

func TestNumbersOfChanges(t *testing.T) {
	g := graphOf(t, "3 0>1=5 1>2=7")
	same := slices.Repeat(changes(put(0, 1, 5)), maxChanges+1)
	back := slices.Repeat(changes(put(0, 2, 1), cut(0, 2)), maxChanges)
	for _, list := range [][]impl.Change{same, back} {
		for count := range maxChanges + 1 {
			wantBatchLikeScans(t, g, list[:count])
		}
		for count := maxChanges + 1; count <= len(list); count++ {
			wantNoBatch(t, fmt.Sprintf("%d changes", count), g, list[:count])
		}
		for _, kind := range allKinds() {
			k := keepView(t, g, kind.m, 0)
			want, all := keptByScans(t, k, list[:maxChanges])
			got, looked, ok := impl.KeepBatch(k, list[:maxChanges])
			wantLooked(t, kind.name+": the greatest number of changes", got, looked, ok, want, all)
		}
	}
	wantNoBatch(t, "very many changes", g, slices.Repeat(same, 1000))
}

// TestFullGraphs has graphs with the greatest number of edges at the beginning, at the end and in between.
func TestFullGraphs(t *testing.T) {
	full := greatestGraph()
	first, last := full.Edges[0], full.Edges[impl.MaxEdges-1]
	other := put(11, 10, 3)
	almost, _ := impl.CutEdge(full, last.From, last.To)
	again := impl.Change{Edge: last}
	lists := [][]impl.Change{
		changes(put(first.From, first.To, impl.MaxWeight)), changes(cut(first.From, first.To), other), changes(cut(last.From, last.To), other, cut(11, 10), again),
		changes(put(last.From, last.To, 1), cut(first.From, first.To), other, put(11, 10, 4)),
	}
	for _, list := range lists {
		wantBatchLikeScans(t, full, list)
	}
	wantNoBatch(t, "one edge too many", full, changes(other))
	wantNoBatch(t, "one edge too many in between", full, changes(other, cut(first.From, first.To)))
	wantNoBatch(t, "one edge too many, cut at once", full, changes(other, cut(11, 10)))
	wantNoBatch(t, "one edge too many in the end", full, changes(cut(first.From, first.To), other, impl.Change{Edge: first}))
	for _, list := range [][]impl.Change{changes(again), changes(other), changes(other, cut(11, 10)), changes(other, cut(11, 10), again), changes(other, cut(first.From, first.To), again), changes(again, cut(first.From, first.To), other, cut(last.From, last.To))} {
		wantBatchLikeScans(t, almost, list)
	}
	wantNoBatch(t, "full, and one more", almost, changes(again, other))
	wantNoBatch(t, "full in between, and one more", almost, changes(again, other, cut(last.From, last.To)))
	// Its net changes are one cut and one put, which are made in this order, as there is no place for the edge before.
	list := changes(cut(last.From, last.To), other)
	net, ok := impl.NetChanges(full, list)
	wantChanges(t, "one edge for another one", net, ok, list...)
	undo, ok := impl.UndoChanges(full, list)
	wantChanges(t, "one edge for another one, back", undo, ok, cut(11, 10), again)
	wantGraph(t, "the full graph", applied(t, applied(t, full, net), undo), ok, impl.FormatGraph(full))
}

func TestBatchesAtOtherLimits(t *testing.T) {
	g := impl.Graph{Nodes: impl.MaxNodes}
	wantBatchLikeScans(t, g, changes(put(0, impl.MaxNodes-1, impl.MaxWeight), put(impl.MaxNodes-1, 0, 1), cut(0, impl.MaxNodes-1)))
	for _, bad := range changes(put(0, impl.MaxNodes, 1), put(impl.MaxNodes, 0, 1), put(0, 11, impl.MaxWeight+1), put(0, 11, 0), put(-1, 11, 1), put(11, -1, 1)) {
		wantNoBatch(t, "one past a limit", g, changes(bad))
	}
	wantNoBatch(t, "one node more", impl.Graph{Nodes: impl.MaxNodes + 1}, nil)
	wantNoBatch(t, "no nodes", impl.Graph{}, nil)
	for nodes := 1; nodes <= impl.MaxNodes; nodes++ {
		wantBatchLikeScans(t, impl.Graph{Nodes: nodes}, nil)
	}
}

func TestDiffGraphs(t *testing.T) {
	cases := []struct {
		a    string
		b    string
		want []impl.Change
	}{
		{"1", "1", nil},
		{"3 0>1=5 1>2=7", "3 0>1=5 1>2=7", nil},
		{"3", "3 0>1=5 1>2=7", changes(put(0, 1, 5), put(1, 2, 7))},
		{"3 0>1=5 1>2=7", "3", changes(cut(0, 1), cut(1, 2))},
		{"3 0>1=5", "3 0>1=6", changes(put(0, 1, 6))},
		{"3 0>1=5", "3 1>0=5", changes(cut(0, 1), put(1, 0, 5))},
		{"3 1>0=5", "3 0>1=5", changes(cut(1, 0), put(0, 1, 5))},
		// Edges of one graph in front of, between and behind those of the other one.
		{"4 0>1=1 0>2=2", "4 0>3=3 1>0=4", changes(cut(0, 1), cut(0, 2), put(0, 3, 3), put(1, 0, 4))},
		{"4 0>3=3 1>0=4", "4 0>1=1 0>2=2", changes(cut(0, 3), cut(1, 0), put(0, 1, 1), put(0, 2, 2))},
		{"4 0>1=1 0>3=2 2>0=3", "4 0>2=4 1>0=5 3>0=6", changes(cut(0, 1), cut(0, 3), cut(2, 0), put(0, 2, 4), put(1, 0, 5), put(3, 0, 6))},
		{"4 0>1=1 0>3=2 2>0=3 3>0=6", "4 0>2=4 0>3=2 2>0=7", changes(cut(0, 1), cut(3, 0), put(0, 2, 4), put(2, 0, 7))},
		{"12 0>11=1 11>0=2 11>10=3", "12 0>11=1 2>1=9 11>0=3", changes(cut(11, 10), put(2, 1, 9), put(11, 0, 3))},
		// The numbers are compared as such, not as texts.
		{"12 2>1=1 10>1=1", "12 1>2=1 1>10=1 10>1=2", changes(cut(2, 1), put(1, 2, 1), put(1, 10, 1), put(10, 1, 2))},
	}
	for _, c := range cases {
		got, ok := impl.DiffGraphs(graphOf(t, c.a), graphOf(t, c.b))
		wantChanges(t, fmt.Sprintf("DiffGraphs of %q and %q", c.a, c.b), got, ok, c.want...)
	}
}

func TestDiffGraphsLikeScans(t *testing.T) {
	random := rand.New(rand.NewSource(92))
	for range 400 {
		nodes := 1 + random.Intn(impl.MaxNodes)
		a := randomGraph(random, nodes, random.Intn(impl.MaxEdges+1), 2)
		b := randomGraph(random, nodes, random.Intn(impl.MaxEdges+1), 2)
		got, ok := impl.DiffGraphs(a, b)
		wantChanges(t, fmt.Sprintf("DiffGraphs of %q and %q", impl.FormatGraph(a), impl.FormatGraph(b)), got, ok, diffByScans(a, b)...)
		same, ok := impl.DiffGraphs(a, a)
		wantChanges(t, fmt.Sprintf("DiffGraphs of %q and itself", impl.FormatGraph(a)), same, ok)
	}
}

func TestDiffGraphsWithOtherNodes(t *testing.T) {
	for a := 1; a <= impl.MaxNodes; a++ {
		for b := 1; b <= impl.MaxNodes; b++ {
			for _, edges := range [][]impl.Edge{nil, {{From: 0, To: 1, Weight: 5}}} {
				if a != b && (min(a, b) > 1 || len(edges) == 0) {
					got, ok := impl.DiffGraphs(impl.Graph{Nodes: a, Edges: edges}, impl.Graph{Nodes: b, Edges: edges})
					wantNoChanges(t, fmt.Sprintf("DiffGraphs of %d and %d nodes", a, b), got, ok)
				}
			}
		}
	}
}

// TestGreatestDifference has two full graphs without a common edge. Their differences are more changes than can be made at once, but can be made in parts.
func TestGreatestDifference(t *testing.T) {
	a := greatestGraph()
	b := impl.Graph{Nodes: impl.MaxNodes, Edges: firstEdges(impl.MaxNodes, 2*impl.MaxEdges)[impl.MaxEdges:]}
	for i := range b.Edges {
		b.Edges[i].Weight = impl.MaxWeight - i
	}
	list, ok := impl.DiffGraphs(a, b)
	wantChanges(t, "the greatest difference", list, ok && len(list) == 2*impl.MaxEdges, diffByScans(a, b)...)
	wantNoBatch(t, "the greatest difference", a, list)
	g := a
	for part := range slices.Chunk(list, maxChanges) {
		g = applied(t, g, part)
	}
	wantGraph(t, "the greatest difference, in parts", g, true, impl.FormatGraph(b))
	// As many changes as can be made at once.
	list = list[maxChanges-impl.MaxEdges : maxChanges+maxChanges-impl.MaxEdges]
	start := applied(t, a, diffByScans(a, b)[:maxChanges-impl.MaxEdges])
	wantBatchLikeScans(t, start, list)
	net, ok := impl.NetChanges(start, list)
	wantChanges(t, "the most net changes", net, ok && len(net) == maxChanges, list...)
}

// keptBatch is a list of changes to the view from 0, with the values behind it and the number of nodes that are looked at again.
type keptBatch struct {
	what    string
	text    string
	m       int
	list    []impl.Change
	values  []int
	parents []int
	looked  int
}

func TestKeepBatch(t *testing.T) {
	text := "4 0>1=5 0>2=3 1>3=1 2>1=1"
	cases := []keptBatch{
		{"no changes", text, impl.MeasureLength, nil, []int{0, 4, 3, 5}, []int{-1, 2, 0, 1}, 0},
		{"one cut", text, impl.MeasureLength, changes(cut(2, 1)), []int{0, 5, 3, 6}, []int{-1, 0, 0, 1}, 2},
		{"one put", text, impl.MeasureLength, changes(put(0, 3, 2)), []int{0, 4, 3, 2}, []int{-1, 2, 0, 0}, 1},
		{"changes that look at nothing", text, impl.MeasureLength, changes(cut(0, 1), put(0, 1, 9), put(3, 0, 1)), []int{0, 4, 3, 5}, []int{-1, 2, 0, 1}, 0},
		{"nodes that are looked at several times", text, impl.MeasureLength, changes(cut(2, 1), put(2, 3, 2), put(0, 1, 4)), []int{0, 4, 3, 5}, []int{-1, 0, 0, 2}, 4},
		{"a change back", text, impl.MeasureLength, changes(cut(2, 1), put(2, 1, 1)), []int{0, 4, 3, 5}, []int{-1, 2, 0, 1}, 4},
		{"a change back, with another parent", "3 0>1=2 0>2=1 2>1=1", impl.MeasureLength, changes(cut(0, 1), put(0, 1, 2)), []int{0, 2, 1}, []int{-1, 2, 0}, 1},
		{"an edge that is put twice", "3 0>1=5", impl.MeasureLength, changes(put(1, 2, 7), put(1, 2, 7)), []int{0, 5, 12}, []int{-1, 0, 1}, 1},
		{"an edge that is put twice, then better", "3 0>1=5", impl.MeasureLength, changes(put(1, 2, 7), put(1, 2, 6)), []int{0, 5, 11}, []int{-1, 0, 1}, 2},
		{"an edge that is put twice, then worse", "3 0>1=5", impl.MeasureLength, changes(put(1, 2, 7), put(1, 2, 8)), []int{0, 5, 13}, []int{-1, 0, 1}, 2},
		{"a cycle that is cut off and reached again", "4 0>1=5 1>2=9 2>1=9 2>3=7", impl.MeasureWidth, changes(cut(0, 1), put(0, 2, 4)), []int{100000, 4, 4, 4}, []int{-1, 2, 0, 2}, 6},
		{"a way that is built from its end", "3", impl.MeasureHops, changes(put(1, 2, 5), put(0, 1, 5)), []int{0, 1, 2}, []int{-1, 0, 1}, 2},
		{"all edges cut", "3 0>1=5 1>2=7", impl.MeasureReach, changes(cut(1, 2), cut(0, 1)), []int{1, 0, 0}, []int{-1, -1, -1}, 2},
		{"the weight of an edge that only counts", "2 0>1=5", impl.MeasureReach, changes(put(0, 1, 9), put(0, 1, 1)), []int{1, 1}, []int{-1, 0}, 0},
	}
	for _, c := range cases {
		k := keepView(t, graphOf(t, c.text), c.m, 0)
		got, looked, ok := impl.KeepBatch(k, c.list)
		want := impl.Kept{Graph: applied(t, k.Graph, c.list), View: withValues(k.View, c.values...), Parents: c.parents}
		wantLooked(t, c.what, got, looked, ok, want, c.looked)
		wantRightKept(t, c.what, got)
	}
}

func TestKeepBatchLikeScans(t *testing.T) {
	random := rand.New(rand.NewSource(93))
	for range 40 {
		for _, kind := range allKinds() {
			k := kind.randomKept(t, random)
			list := randomChanges(random, k.Graph, random.Intn(maxChanges+1), []int{3, impl.MaxWeight}[random.Intn(2)])
			what := fmt.Sprintf("%s with %v", describe(k), list)
			want, all := keptByScans(t, k, list)
			got, looked, ok := impl.KeepBatch(k, list)
			wantLooked(t, what, got, looked, ok, want, all)
			wantRightKept(t, what, got)
			same, looked, ok := impl.KeepBatch(k, nil)
			wantLooked(t, what+": none of them", same, looked, ok, k, 0)
		}
	}
}

func TestKeepBatchOfInvalidViews(t *testing.T) {
	for name, k := range invalidKept(t) {
		lists := [][]impl.Change{nil, changes(), changes(put(0, 1, 1)), changes(cut(0, 1)), changes(put(1, 0, 9), cut(1, 0)), changes(put(0, 2, 9), put(0, 2, 1), put(2, 1, 1)), changes(impl.Change{})}
		if tree := k.Graph.Edges; len(tree) > 0 {
			lists = append(lists, changes(cut(tree[0].From, tree[0].To), impl.Change{Edge: tree[0]}))
		}
		for _, list := range lists {
			got, looked, ok := impl.KeepBatch(k, list)
			wantNothingLooked(t, fmt.Sprintf("%s: KeepBatch with %v", name, list), got, looked, ok)
		}
	}
}

func TestChangedNodes(t *testing.T) {
	all := firstNodes(impl.MaxNodes)
	cases := []struct {
		a    impl.View
		b    impl.View
		want []int
	}{
		{lengths(0, 0, 5, 12), lengths(0, 0, 5, 12), nil},
		{lengths(0, 0, 5, 12), lengths(0, 0, 4, 12), []int{1}},
		{lengths(0, 0, 5, 12), lengths(0, 0, 5, 11), []int{2}},
		{lengths(0, 0, 5, 12), lengths(0, 1, 5, 12), []int{0}},
		{lengths(0, 0, 5, 12), lengths(0, 1, 5, 13), []int{0, 2}},
		{lengths(0, 0, 5, 12), lengths(0, 1, 6, 13), []int{0, 1, 2}},
		{lengths(0, 0, 5, 12), lengths(0, 12, 5, 0), []int{0, 2}},
		{widths(0, 100000, 5, 0), widths(0, 100000, 5, 7), []int{2}},
		{lengths(0, 0), lengths(0, 0), nil},
		{lengths(0, 0), lengths(0, 100000), []int{0}},
		// The source does not count, and neither does whether the views are valid.
		{lengths(0, 0, 5), lengths(1, 0, 5), nil},
		{lengths(0, 0, 5), lengths(1, 5, 0), []int{0, 1}},
		{lengths(-7, -1, 5, math.MinInt), lengths(99, -1, 100001, math.MaxInt), []int{1, 2}},
		{impl.View{}, impl.View{}, nil},
		{impl.View{}, impl.View{Source: 5, Values: []int{}}, nil},
		{lengths(0), lengths(0), nil},
		{impl.View{Measure: -1, Values: []int{3}}, impl.View{Measure: -1, Values: []int{4}}, []int{0}},
		{impl.View{Measure: 6, Values: []int{3}}, impl.View{Measure: 6, Values: []int{3}}, nil},
		{impl.View{Measure: 6, Values: make([]int, impl.MaxNodes)}, impl.View{Measure: 6, Values: slices.Repeat([]int{1}, impl.MaxNodes)}, all},
		{lengths(0, make([]int, 100)...), lengths(0, append(make([]int, 99), 1)...), []int{99}},
		{lengths(0, make([]int, 100)...), lengths(0, slices.Repeat([]int{1}, 100)...), firstNodes(100)},
	}
	for _, c := range cases {
		got, ok := impl.ChangedNodes(c.a, c.b)
		wantNumbers(t, fmt.Sprintf("ChangedNodes of %v and %v", c.a, c.b), got, ok, c.want...)
		got, ok = impl.ChangedNodes(c.b, c.a)
		wantNumbers(t, fmt.Sprintf("ChangedNodes of %v and %v", c.b, c.a), got, ok, c.want...)
	}
}

func TestChangedNodesOfUnlikeViews(t *testing.T) {
	views := []impl.View{{}, {Measure: 6}, {Measure: -1, Values: []int{0}}, {Values: []int{0}}, lengths(0), lengths(0, 0), lengths(0, 0, 5), lengths(0, 0, 5, 12), lengths(0, make([]int, 13)...), widths(0), widths(0, 0), widths(0, 0, 5), widths(0, 0, 5, 12)}
	for i, a := range views {
		for k, b := range views {
			if i != k {
				got, ok := impl.ChangedNodes(a, b)
				wantNoNumbers(t, fmt.Sprintf("ChangedNodes of %v and %v", a, b), got, ok)
			}
		}
	}
}

func TestChangedNodesLikeScans(t *testing.T) {
	random := rand.New(rand.NewSource(94))
	for range 100 {
		for _, kind := range allKinds() {
			nodes := 1 + random.Intn(impl.MaxNodes)
			a, b := kind.randomView(random, nodes), kind.randomView(random, nodes)
			for node := range b.Values {
				if random.Intn(2) == 0 {
					b.Values[node] = a.Values[node]
				}
			}
			got, ok := impl.ChangedNodes(a, b)
			wantNumbers(t, fmt.Sprintf("ChangedNodes of %v and %v", a, b), got, ok, changedByScans(a, b)...)
		}
	}
}

// batchResults are all results that come from a kept view, a graph with the same nodes and a list of changes.
type batchResults struct {
	graph   impl.Graph
	same    impl.Graph
	kept    impl.Kept
	again   impl.Kept
	lists   [][]impl.Change
	changed []int
}

func batchResultsOf(k impl.Kept, other impl.Graph, list []impl.Change) batchResults {
	var r batchResults
	r.graph, _ = impl.ApplyChanges(k.Graph, list)
	r.same, _ = impl.ApplyChanges(k.Graph, list[:0])
	r.kept, _, _ = impl.KeepBatch(k, list)
	r.again, _, _ = impl.KeepBatch(k, list[:0])
	net, _ := impl.NetChanges(k.Graph, list)
	undo, _ := impl.UndoChanges(k.Graph, list)
	there, _ := impl.DiffGraphs(k.Graph, other)
	back, _ := impl.DiffGraphs(other, k.Graph)
	r.lists = [][]impl.Change{net, undo, there, back}
	r.changed, _ = impl.ChangedNodes(k.View, r.kept.View)
	return r
}

func (r batchResults) wantSame(t *testing.T, what string, want batchResults) {
	t.Helper()
	wantKept(t, what+": the kept view", r.kept, true, want.kept)
	wantKept(t, what+": the kept view without changes", r.again, true, want.again)
	wantGraph(t, what+": the graph", r.graph, true, impl.FormatGraph(want.graph))
	wantGraph(t, what+": the graph without changes", r.same, true, impl.FormatGraph(want.same))
	wantNumbers(t, what+": the changed nodes", r.changed, true, want.changed...)
	for i, list := range r.lists {
		wantChanges(t, fmt.Sprintf("%s: the list %d", what, i), list, true, want.lists[i]...)
	}
}

// overwriteOneByOne changes all memory of the results, and checks before each one that it did not change with others.
func (r batchResults) overwriteOneByOne(t *testing.T, what string, want batchResults) {
	t.Helper()
	overwrite(impl.Kept{Graph: r.graph})
	wantGraph(t, what+": the graph without changes", r.same, true, impl.FormatGraph(want.same))
	overwrite(impl.Kept{Graph: r.same})
	wantKept(t, what+": the kept view", r.kept, true, want.kept)
	overwrite(r.kept)
	wantKept(t, what+": the kept view without changes", r.again, true, want.again)
	overwrite(r.again)
	for i, list := range r.lists {
		wantChanges(t, fmt.Sprintf("%s: the list %d", what, i), list, true, want.lists[i]...)
		for place := range list[:cap(list)] {
			list[:cap(list)][place] = put(77, 77, 77)
		}
	}
	wantNumbers(t, what+": the changed nodes", r.changed, true, want.changed...)
	overwrite(impl.Kept{Parents: r.changed})
}

func TestBatchArgumentsAreKept(t *testing.T) {
	for _, kind := range allKinds() {
		// What is behind the lengths tells whether a function writes there.
		all := firstEdges(4, 12)
		g := impl.Graph{Nodes: 4, Edges: all[:9]}
		k := keepView(t, g, kind.m, 0)
		values, parents := append(k.View.Values, 7, 7, 7), append(k.Parents, 8, 8, 8)
		k = impl.Kept{Graph: g, View: impl.View{Measure: kind.m, Values: values[:4]}, Parents: parents[:4]}
		edges := firstEdges(4, 12)
		other := impl.Graph{Nodes: 4, Edges: edges[3:11]}
		long := changes(cut(0, 1), put(3, 0, 1), put(0, 2, 500), cut(1, 2), put(3, 2, 9), put(3, 2, 8), cut(2, 0), put(2, 0, 1), put(9, 9, 9), put(9, 9, 9))
		list := long[:8]
		beforeValues, beforeParents, beforeChanges := slices.Clone(values), slices.Clone(parents), slices.Clone(long)
		results, copies := batchResultsOf(k, other, list), batchResultsOf(k, other, list)
		results.wantSame(t, kind.name, copies)
		results.overwriteOneByOne(t, kind.name, copies)
		if !slices.Equal(values, beforeValues) || !slices.Equal(parents, beforeParents) || !slices.Equal(long, beforeChanges) {
			t.Errorf("%s: the arguments became %v, %v and %v", kind.name, values, parents, long)
		}
		if !slices.Equal(all, firstEdges(4, 12)) || !slices.Equal(edges, firstEdges(4, 12)) {
			t.Errorf("%s: the graphs became %v and %v", kind.name, all, edges)
		}
		batchResultsOf(k, other, list).wantSame(t, kind.name+", behind changes of results", copies)
	}
}

// wantSameResult checks that net changes lead to the same graph as the list, that none of them can be left out, and that the changes that undo it lead back.
func wantSameResult(t *testing.T, g impl.Graph, list []impl.Change) {
	t.Helper()
	what := fmt.Sprintf("%v of %q", list, impl.FormatGraph(g))
	result := applied(t, g, list)
	net, ok := impl.NetChanges(g, list)
	wantGraph(t, "the net changes of "+what, applied(t, g, net), ok && len(net) <= len(list), impl.FormatGraph(result))
	for place := range net {
		// Without a cut, there may be too many edges for the puts.
		if h, ok := impl.ApplyChanges(g, changesWithout(net, place)); ok && impl.GraphSame(h, result) {
			t.Errorf("the net changes of %s are %v, and lead to the same graph without number %d", what, net, place)
		}
	}
	again, ok := impl.NetChanges(g, net)
	wantChanges(t, "the net changes of those of "+what, again, ok, net...)
	undo, ok := impl.UndoChanges(g, list)
	wantGraph(t, "undoing "+what, applied(t, result, undo), ok && len(undo) == len(net), impl.FormatGraph(g))
	redo, ok := impl.UndoChanges(result, undo)
	wantChanges(t, "undoing what undoes "+what, redo, ok, net...)
}

// wantSameView checks that net changes lead to the same kept view as the list, that both are right, and that the changes that undo it lead back.
func wantSameView(t *testing.T, kind kindOfMeasures, k impl.Kept, list []impl.Change) {
	t.Helper()
	what := fmt.Sprintf("%v of %s", list, describe(k))
	net, fine := impl.NetChanges(k.Graph, list)
	undo, fair := impl.UndoChanges(k.Graph, list)
	long, _, ok := impl.KeepBatch(k, list)
	short, _, good := impl.KeepBatch(k, net)
	back, _, well := impl.KeepBatch(long, undo)
	if !fine || !fair || !ok || !good || !well {
		t.Fatalf("%s: %v, %v, %v, %v, %v", what, fine, fair, ok, good, well)
	}
	wantGraph(t, what+": the graph", long.Graph, ok, impl.FormatGraph(applied(t, k.Graph, list)))
	wantGraph(t, what+": the graph of net changes", short.Graph, ok, impl.FormatGraph(long.Graph))
	wantNumbers(t, what+": the values", long.View.Values, ok, kind.bestByPaths(t, long.Graph, k.View.Source)...)
	wantRightKept(t, what, long)
	wantRightKept(t, what+": net changes", short)
	wantRightKept(t, what+": undone", back)
	wantView(t, what+": net changes", short.View, ok, long.View)
	wantView(t, what+": undone", back.View, ok, k.View)
	changed, ok := impl.ChangedNodes(long.View, short.View)
	wantNumbers(t, what+": the nodes that net changes do not change alike", changed, ok)
	changed, ok = impl.ChangedNodes(k.View, long.View)
	wantNumbers(t, what+": the changed nodes", changed, ok, changedByScans(k.View, long.View)...)
}

// TestPromise9 makes random changes to graphs with few and with many edges.
func TestPromise9(t *testing.T) {
	random := rand.New(rand.NewSource(999))
	for range 150 {
		nodes, weight := 2+random.Intn(impl.MaxNodes-1), []int{1, 3, 30, impl.MaxWeight}[random.Intn(4)]
		g := randomGraph(random, nodes, random.Intn(impl.MaxEdges+1), weight)
		list := randomChanges(random, g, random.Intn(maxChanges+1), weight)
		for count := range len(list) + 1 {
			wantSameResult(t, g, list[:count])
		}
	}
}

// changesOfFullGraph are changes to a graph that has as many edges as there can be, and gets back to as many again and again.
func changesOfFullGraph(random *rand.Rand, g impl.Graph, count int) []impl.Change {
	var list []impl.Change
	for len(list) < count {
		e := g.Edges[random.Intn(len(g.Edges))]
		c := put(random.Intn(g.Nodes), random.Intn(g.Nodes), 1+random.Intn(3))
		if random.Intn(8) == 0 || len(g.Edges) == impl.MaxEdges && random.Intn(2) == 0 {
			c = cut(e.From, e.To)
		}
		if h, ok := impl.ApplyChanges(g, changes(c)); ok {
			list = append(list, c)
			g = h
		}
	}
	return list
}

// TestPromise9OfFullGraphs begins with as many edges as there can be.
func TestPromise9OfFullGraphs(t *testing.T) {
	random := rand.New(rand.NewSource(998))
	full := 0
	for range 40 {
		g := randomGraph(random, 7+random.Intn(6), impl.MaxEdges, 3)
		list := changesOfFullGraph(random, g, maxChanges)
		for count := range len(list) + 1 {
			wantSameResult(t, g, list[:count])
			if len(applied(t, g, list[:count]).Edges) == impl.MaxEdges {
				full++
			}
		}
	}
	if full < 500 {
		t.Errorf("only %d graphs were full", full)
	}
}

func TestPromise9OfKeptViews(t *testing.T) {
	random := rand.New(rand.NewSource(997))
	for range 150 {
		for _, kind := range allKinds() {
			nodes, weight := 1+random.Intn(impl.MaxNodes), []int{1, 3, 30, impl.MaxWeight}[random.Intn(4)]
			k := withOtherParents(t, random, keepView(t, randomGraph(random, nodes, random.Intn(2*nodes), weight), kind.m, random.Intn(nodes)))
			wantSameView(t, kind, k, randomChanges(random, k.Graph, random.Intn(2*nodes), weight))
		}
	}
}

// TestPromise9InSmallGraphs makes any three changes to all graphs of two nodes, and any two to all graphs of three nodes with weights up to 2.
func TestPromise9InSmallGraphs(t *testing.T) {
	for _, size := range []struct{ nodes, count int }{{2, 3}, {3, 2}} {
		edges := firstEdges(size.nodes, size.nodes*size.nodes)
		var single []impl.Change
		for _, e := range edges {
			single = append(single, put(e.From, e.To, 1), put(e.From, e.To, 2), cut(e.From, e.To))
		}
		for _, g := range allGraphs(size.nodes, edges, 2) {
			for _, places := range allLists(size.count, 0, len(single)-1) {
				var list []impl.Change
				for _, place := range places {
					list = append(list, single[place])
				}
				if _, ok := appliedByScans(g, list); ok {
					wantSameResult(t, g, list)
				} else if impl.ChangesValid(g, list) {
					t.Errorf("%v of %q are valid", list, impl.FormatGraph(g))
				}
			}
		}
	}
}
