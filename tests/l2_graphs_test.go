package tests

import (
	"cmp"
	"fmt"
	"maps"
	"math"
	"math/rand"
	"slices"
	"strings"
	"testing"

	"loop.example/graphviews/impl"
)

// graphOf fails the test if text is not the text of a graph.
func graphOf(t *testing.T, text string) impl.Graph {
	t.Helper()
	g, ok := impl.ParseGraph(text)
	if !ok {
		t.Fatalf("%q is no text of a graph", text)
	}
	return g
}

// firstEdges are the first count edges, in order, that a graph with so many nodes can have.
func firstEdges(nodes int, count int) []impl.Edge {
	var edges []impl.Edge
	for from := range nodes {
		for to := range nodes {
			if from != to && len(edges) < count {
				edges = append(edges, impl.Edge{From: from, To: to, Weight: 1 + len(edges)})
			}
		}
	}
	return edges
}

func greatestGraph() impl.Graph {
	return impl.Graph{Nodes: impl.MaxNodes, Edges: firstEdges(impl.MaxNodes, impl.MaxEdges)}
}

// textsOfGraphs are texts of valid graphs without edges, with some, and with the greatest numbers of nodes and edges.
func textsOfGraphs() []string {
	return []string{
		"1", "2", "12", "2 0>1=1", "2 1>0=999", "2 0>1=5 1>0=7", "3 0>1=5 1>2=7", "3 0>1=5 0>2=9 1>2=7", "3 1>0=5 2>0=9 2>1=7",
		"12 0>11=1 11>0=2", "12 9>10=10 10>9=100 10>11=999", impl.FormatGraph(greatestGraph()),
	}
}

func invalidGraphs() map[string]impl.Graph {
	return map[string]impl.Graph{
		"the zero value":         {},
		"fewer than no nodes":    {Nodes: -1},
		"the least number":       {Nodes: math.MinInt},
		"too many nodes":         {Nodes: impl.MaxNodes + 1},
		"the greatest number":    {Nodes: math.MaxInt},
		"edges without nodes":    {Edges: []impl.Edge{{From: 0, To: 1, Weight: 1}}},
		"too many edges":         {Nodes: impl.MaxNodes, Edges: firstEdges(impl.MaxNodes, impl.MaxEdges+1)},
		"from a node to itself":  {Nodes: 3, Edges: []impl.Edge{{From: 1, To: 1, Weight: 5}}},
		"from no node":           {Nodes: 3, Edges: []impl.Edge{{From: 3, To: 1, Weight: 5}}},
		"from a negative number": {Nodes: 3, Edges: []impl.Edge{{From: -1, To: 1, Weight: 5}}},
		"to no node":             {Nodes: 3, Edges: []impl.Edge{{From: 1, To: 3, Weight: 5}}},
		"to a negative number":   {Nodes: 3, Edges: []impl.Edge{{From: 1, To: -1, Weight: 5}}},
		"the weight 0":           {Nodes: 3, Edges: []impl.Edge{{From: 0, To: 1, Weight: 0}}},
		"a negative weight":      {Nodes: 3, Edges: []impl.Edge{{From: 0, To: 1, Weight: -1}}},
		"too great a weight":     {Nodes: 3, Edges: []impl.Edge{{From: 0, To: 1, Weight: 1000}}},
		"the second edge":        {Nodes: 3, Edges: []impl.Edge{{From: 0, To: 1, Weight: 1}, {From: 0, To: 2, Weight: 0}}},
		"From descends":          {Nodes: 3, Edges: []impl.Edge{{From: 1, To: 2, Weight: 1}, {From: 0, To: 1, Weight: 1}}},
		"To descends":            {Nodes: 3, Edges: []impl.Edge{{From: 0, To: 2, Weight: 1}, {From: 0, To: 1, Weight: 1}}},
		"an edge twice":          {Nodes: 3, Edges: []impl.Edge{{From: 0, To: 1, Weight: 1}, {From: 0, To: 1, Weight: 1}}},
		"two weights":            {Nodes: 3, Edges: []impl.Edge{{From: 0, To: 1, Weight: 1}, {From: 0, To: 1, Weight: 2}}},
		"the last one descends":  {Nodes: 3, Edges: []impl.Edge{{From: 0, To: 1, Weight: 1}, {From: 1, To: 2, Weight: 2}, {From: 1, To: 0, Weight: 2}}},
	}
}

func wantGraph(t *testing.T, what string, got impl.Graph, ok bool, want string) {
	t.Helper()
	if text := impl.FormatGraph(got); !ok || text != want {
		t.Errorf("%s = %v, %v, want %q, true", what, got, ok, want)
	}
}

func wantNoGraph(t *testing.T, what string, got impl.Graph, ok bool) {
	t.Helper()
	if ok || got.Nodes != 0 || len(got.Edges) != 0 {
		t.Errorf("%s = %v, %v, want the zero value, false", what, got, ok)
	}
}

func TestGraphConstants(t *testing.T) {
	if impl.MaxNodes != 12 || impl.MaxEdges != 40 {
		t.Errorf("MaxNodes = %d, MaxEdges = %d", impl.MaxNodes, impl.MaxEdges)
	}
}

func TestGraphExample(t *testing.T) {
	want := impl.Graph{Nodes: 3, Edges: []impl.Edge{{From: 0, To: 1, Weight: 5}, {From: 1, To: 2, Weight: 7}}}
	got, ok := impl.ParseGraph("3 0>1=5 1>2=7")
	if !ok || !impl.GraphSame(got, want) {
		t.Errorf("ParseGraph = %v, %v", got, ok)
	}
	if text := impl.FormatGraph(want); text != "3 0>1=5 1>2=7" {
		t.Errorf("FormatGraph = %q", text)
	}
}

func TestGraphValid(t *testing.T) {
	valid := []impl.Graph{
		{Nodes: 1},
		{Nodes: 1, Edges: []impl.Edge{}},
		{Nodes: impl.MaxNodes},
		{Nodes: 2, Edges: []impl.Edge{{From: 1, To: 0, Weight: 1}}},
		{Nodes: 2, Edges: []impl.Edge{{From: 0, To: 1, Weight: impl.MaxWeight}, {From: 1, To: 0, Weight: 1}}},
		{Nodes: 3, Edges: []impl.Edge{{From: 0, To: 2, Weight: 9}, {From: 1, To: 0, Weight: 2}}},
		{Nodes: impl.MaxNodes, Edges: []impl.Edge{{From: 0, To: 11, Weight: 1}, {From: 11, To: 0, Weight: 1}, {From: 11, To: 10, Weight: 1}}},
		greatestGraph(),
	}
	for _, g := range valid {
		if !impl.GraphValid(g) {
			t.Errorf("%v is not valid", g)
		}
	}
	for name, g := range invalidGraphs() {
		if impl.GraphValid(g) {
			t.Errorf("%s: %v is valid", name, g)
		}
	}
}

func TestGraphSame(t *testing.T) {
	graphs := slices.Collect(maps.Values(invalidGraphs()))
	for _, text := range textsOfGraphs() {
		graphs = append(graphs, graphOf(t, text))
	}
	for i, a := range graphs {
		for j, b := range graphs {
			copied := impl.Graph{Nodes: b.Nodes, Edges: slices.Clone(b.Edges)}
			if got := impl.GraphSame(a, copied); got != (i == j) {
				t.Errorf("GraphSame(%v, %v) = %v", a, copied, got)
			}
		}
	}
	if !impl.GraphSame(impl.Graph{Nodes: 2}, impl.Graph{Nodes: 2, Edges: []impl.Edge{}}) {
		t.Error("nil and empty edges are not the same")
	}
	one := impl.Edge{From: 0, To: 1, Weight: 5}
	for _, other := range []impl.Edge{{From: 2, To: 1, Weight: 5}, {From: 0, To: 2, Weight: 5}, {From: 0, To: 1, Weight: 6}} {
		if impl.GraphSame(impl.Graph{Nodes: 3, Edges: []impl.Edge{one}}, impl.Graph{Nodes: 3, Edges: []impl.Edge{other}}) {
			t.Errorf("the edges %v and %v are the same", one, other)
		}
	}
}

func TestInvalidGraphs(t *testing.T) {
	for name, g := range invalidGraphs() {
		weight, ok := impl.WeightOf(g, 0, 1)
		wantNoValue(t, name+": WeightOf", weight, ok)
		for _, e := range []impl.Edge{{From: 0, To: 1, Weight: 5}, {From: 0, To: 2, Weight: 5}, {From: 2, To: 1, Weight: 5}} {
			got, ok := impl.PutEdge(g, e)
			wantNoGraph(t, name+": PutEdge", got, ok)
			got, ok = impl.CutEdge(g, e.From, e.To)
			wantNoGraph(t, name+": CutEdge", got, ok)
		}
		for _, e := range g.Edges {
			got, ok := impl.CutEdge(g, e.From, e.To)
			wantNoGraph(t, name+": CutEdge", got, ok)
		}
		got, ok := impl.ReverseGraph(g)
		wantNoGraph(t, name+": ReverseGraph", got, ok)
		for node := range 3 {
			if next := impl.NextNodes(g, node); len(next) != 0 {
				t.Errorf("%s: NextNodes = %v", name, next)
			}
		}
		if text := impl.FormatGraph(g); text != "" {
			t.Errorf("%s: FormatGraph = %q", name, text)
		}
	}
}

func TestWeightOf(t *testing.T) {
	for _, text := range textsOfGraphs() {
		g := graphOf(t, text)
		for from := -1; from <= g.Nodes; from++ {
			for to := -1; to <= g.Nodes; to++ {
				place := slices.IndexFunc(g.Edges, func(e impl.Edge) bool { return e.From == from && e.To == to })
				weight, ok := impl.WeightOf(g, from, to)
				if place < 0 {
					wantNoValue(t, "no edge", weight, ok)
				} else {
					wantValue(t, "an edge", weight, ok, g.Edges[place].Weight)
				}
			}
		}
		for _, far := range []int{math.MinInt, math.MaxInt} {
			weight, ok := impl.WeightOf(g, far, 1)
			wantNoValue(t, "from far away", weight, ok)
			weight, ok = impl.WeightOf(g, 0, far)
			wantNoValue(t, "to far away", weight, ok)
		}
	}
}

func TestPutEdge(t *testing.T) {
	cases := []struct {
		text string
		edge impl.Edge
		want string
	}{
		{"2", impl.Edge{From: 0, To: 1, Weight: 5}, "2 0>1=5"},
		{"2", impl.Edge{From: 1, To: 0, Weight: 1}, "2 1>0=1"},
		{"2 1>0=1", impl.Edge{From: 0, To: 1, Weight: 999}, "2 0>1=999 1>0=1"},
		{"3 0>1=5 1>2=7", impl.Edge{From: 0, To: 2, Weight: 9}, "3 0>1=5 0>2=9 1>2=7"},
		{"3 0>1=5 1>2=7", impl.Edge{From: 1, To: 0, Weight: 9}, "3 0>1=5 1>0=9 1>2=7"},
		{"3 0>1=5 1>2=7", impl.Edge{From: 2, To: 0, Weight: 9}, "3 0>1=5 1>2=7 2>0=9"},
		{"3 0>2=5 1>2=7", impl.Edge{From: 0, To: 1, Weight: 9}, "3 0>1=9 0>2=5 1>2=7"},
		{"3 0>1=5 1>2=7", impl.Edge{From: 0, To: 1, Weight: 1}, "3 0>1=1 1>2=7"},
		{"3 0>1=5 1>2=7", impl.Edge{From: 1, To: 2, Weight: 999}, "3 0>1=5 1>2=999"},
		{"3 0>1=5 0>2=9 1>2=7", impl.Edge{From: 0, To: 2, Weight: 8}, "3 0>1=5 0>2=8 1>2=7"},
		{"3 0>1=5 0>2=9 1>2=7", impl.Edge{From: 0, To: 2, Weight: 9}, "3 0>1=5 0>2=9 1>2=7"},
		{"12 0>9=1", impl.Edge{From: 0, To: 10, Weight: 1}, "12 0>9=1 0>10=1"},
		{"12 9>0=1", impl.Edge{From: 10, To: 0, Weight: 1}, "12 9>0=1 10>0=1"},
	}
	for _, c := range cases {
		got, ok := impl.PutEdge(graphOf(t, c.text), c.edge)
		wantGraph(t, fmt.Sprintf("%q with %v", c.text, c.edge), got, ok, c.want)
	}
}

func TestPutEdgeThatIsNone(t *testing.T) {
	edges := []impl.Edge{
		{}, {From: 1, To: 1, Weight: 5}, {From: 3, To: 1, Weight: 5}, {From: 1, To: 3, Weight: 5}, {From: -1, To: 1, Weight: 5}, {From: 1, To: -1, Weight: 5},
		{From: 0, To: 1, Weight: 0}, {From: 0, To: 1, Weight: -1}, {From: 0, To: 1, Weight: 1000}, {From: 0, To: 2, Weight: 0}, {From: 0, To: 2, Weight: 1000},
		{From: math.MinInt, To: 1, Weight: 5}, {From: 1, To: math.MaxInt, Weight: 5}, {From: 0, To: 1, Weight: math.MaxInt},
	}
	for _, text := range []string{"3", "3 0>1=5 1>2=7"} {
		for _, e := range edges {
			got, ok := impl.PutEdge(graphOf(t, text), e)
			wantNoGraph(t, fmt.Sprintf("%q with %v", text, e), got, ok)
		}
	}
}

func TestPutEdgeAtLimits(t *testing.T) {
	g := greatestGraph()
	for i, e := range g.Edges {
		want := impl.Graph{Nodes: g.Nodes, Edges: slices.Clone(g.Edges)}
		want.Edges[i].Weight = 777
		e.Weight = 777
		got, ok := impl.PutEdge(g, e)
		wantGraph(t, "an edge of the greatest graph that is changed", got, ok, impl.FormatGraph(want))
	}
	for from := range impl.MaxNodes {
		for to := range impl.MaxNodes {
			if _, there := impl.WeightOf(g, from, to); !there {
				got, ok := impl.PutEdge(g, impl.Edge{From: from, To: to, Weight: 1})
				wantNoGraph(t, "one edge more than the greatest graph has", got, ok)
			}
		}
	}
	fewer := impl.Graph{Nodes: g.Nodes, Edges: g.Edges[:impl.MaxEdges-1]}
	got, ok := impl.PutEdge(fewer, g.Edges[impl.MaxEdges-1])
	wantGraph(t, "the last edge of the greatest graph", got, ok, impl.FormatGraph(g))
}

func TestCutEdge(t *testing.T) {
	cases := []struct {
		text string
		from int
		to   int
		want string
	}{
		{"2 0>1=5", 0, 1, "2"},
		{"2 0>1=5 1>0=7", 0, 1, "2 1>0=7"},
		{"2 0>1=5 1>0=7", 1, 0, "2 0>1=5"},
		{"3 0>1=5 0>2=9 1>2=7", 0, 1, "3 0>2=9 1>2=7"},
		{"3 0>1=5 0>2=9 1>2=7", 0, 2, "3 0>1=5 1>2=7"},
		{"3 0>1=5 0>2=9 1>2=7", 1, 2, "3 0>1=5 0>2=9"},
		{"12 0>9=1 0>10=2 0>11=3", 0, 10, "12 0>9=1 0>11=3"},
	}
	for _, c := range cases {
		got, ok := impl.CutEdge(graphOf(t, c.text), c.from, c.to)
		wantGraph(t, fmt.Sprintf("%q without %d>%d", c.text, c.from, c.to), got, ok, c.want)
	}
	ends := [][2]int{{1, 0}, {2, 0}, {0, 0}, {2, 1}, {-1, 1}, {0, -1}, {3, 0}, {0, 3}, {math.MinInt, 1}, {0, math.MaxInt}}
	for _, text := range []string{"3", "3 0>1=5 0>2=9 1>2=7"} {
		for _, e := range ends {
			got, ok := impl.CutEdge(graphOf(t, text), e[0], e[1])
			wantNoGraph(t, fmt.Sprintf("%q without %v", text, e), got, ok)
		}
	}
}

func TestReverseGraph(t *testing.T) {
	cases := map[string]string{
		"1":                   "1",
		"12":                  "12",
		"2 0>1=5 1>0=7":       "2 0>1=7 1>0=5",
		"3 0>1=5 0>2=9 1>2=7": "3 1>0=5 2>0=9 2>1=7",
		"3 0>2=1 1>0=2 2>1=3": "3 0>1=2 1>2=3 2>0=1",
		"12 0>9=1 0>10=2":     "12 9>0=1 10>0=2",
	}
	for text, want := range cases {
		got, ok := impl.ReverseGraph(graphOf(t, text))
		wantGraph(t, "the reverse of "+text, got, ok, want)
	}
	for _, text := range textsOfGraphs() {
		once, ok := impl.ReverseGraph(graphOf(t, text))
		if !ok || !impl.GraphValid(once) {
			t.Errorf("the reverse of %q = %v, %v", text, once, ok)
		}
		twice, ok := impl.ReverseGraph(once)
		wantGraph(t, "the reverse of the reverse", twice, ok, text)
	}
}

func TestNextNodes(t *testing.T) {
	g := graphOf(t, "12 0>1=5 0>9=7 0>10=1 2>0=1 11>2=3")
	want := map[int][]int{0: {1, 9, 10}, 2: {0}, 11: {2}}
	for _, node := range []int{math.MinInt, -1, 0, 1, 2, 3, 9, 10, 11, 12, math.MaxInt} {
		if got := impl.NextNodes(g, node); !slices.Equal(got, want[node]) {
			t.Errorf("NextNodes of %d = %v, want %v", node, got, want[node])
		}
	}
	if got := impl.NextNodes(greatestGraph(), 0); !slices.Equal(got, []int{1, 2, 3, 4, 5, 6, 7, 8, 9, 10, 11}) {
		t.Errorf("NextNodes in the greatest graph = %v", got)
	}
	if got := impl.NextNodes(graphOf(t, "12"), 0); len(got) != 0 {
		t.Errorf("NextNodes in a graph without edges = %v", got)
	}
}

func TestTextsOfNoGraph(t *testing.T) {
	texts := []string{
		"", " ", "x", "0", "13", "-1", "+1", "01", "1 ", " 1", "1\n", "1\x00", "3,0>1=5", "99999999999999999999",
		"3 ", "3 0", "3 0>", "3 0>1", "3 0>1=", "3 >1=5", "3 0>=5", "3 0=1>5", "3 0>1>5", "3 0=1=5", "3 01=5", "3 0>1=5=5", "3 0>1>2=5",
		"3 0>1=5 ", "3  0>1=5", "3 0>1=5  1>2=7", "3\t0>1=5", "3 0>1=5\n1>2=7", "3 0 >1=5", "3 0> 1=5", "3 0>1= 5",
		"3 00>1=5", "3 0>01=5", "3 0>1=05", "03 0>1=5", "3 +0>1=5", "3 0>+1=5", "3 0>1=+5", "3 -0>1=5", "3 0>1=-5", "3 -1>1=5",
		"3 0>0=1", "3 0>3=1", "3 3>0=1", "3 0>1=0", "3 0>1=1000", "3 0>1=1_0", "3 0>1=0x1", "3 0>1=1e1", "3 0>1=1.0",
		"3 0>1=18446744073709551617", "3 18446744073709551616>1=5", "3 1>2=1 0>1=1", "3 0>2=1 0>1=1", "3 0>1=1 0>1=1", "3 0>1=1 0>1=2", "1 0>1=1",
		"12 " + strings.Repeat("0>1=1 ", 39) + "0>1=1", strings.Repeat("9", 100000), strings.Repeat(" ", 100000), "3" + strings.Repeat(" 0>1=5", 100000),
	}
	for _, text := range texts {
		got, ok := impl.ParseGraph(text)
		wantNoGraph(t, fmt.Sprintf("ParseGraph(%.60q)", text), got, ok)
	}
}

func TestTextsAtLimits(t *testing.T) {
	full := impl.FormatGraph(greatestGraph())
	got, ok := impl.ParseGraph(full)
	if !ok || !impl.GraphSame(got, greatestGraph()) {
		t.Errorf("the greatest graph is parsed as %v, %v", got, ok)
	}
	got, ok = impl.ParseGraph(full + " 11>0=1")
	wantNoGraph(t, "one edge too many", got, ok)
	got, ok = impl.ParseGraph(full + " ")
	wantNoGraph(t, "a space behind the last edge", got, ok)
	got, ok = impl.ParseGraph("13" + strings.TrimPrefix(full, "12"))
	wantNoGraph(t, "one node too many", got, ok)
}

// TestTextsNearby changes single bytes of texts: what is a graph then has just this text.
func TestTextsNearby(t *testing.T) {
	for _, text := range textsOfGraphs() {
		for place := range len(text) {
			for _, other := range []string{"", "0", "1", "9", " ", ">", "=", "-", "+", "\n", "\xff"} {
				for _, rest := range []string{text[place:], text[place+1:]} {
					near := text[:place] + other + rest
					if g, ok := impl.ParseGraph(near); !ok {
						wantNoGraph(t, near, g, ok)
					} else if impl.FormatGraph(g) != near {
						t.Errorf("%q is the graph with the text %q", near, impl.FormatGraph(g))
					}
				}
			}
		}
	}
}

func TestGraphArgumentsAreKept(t *testing.T) {
	// The edges behind the length tell whether a function writes there.
	all := firstEdges(4, 12)
	before := slices.Clone(all)
	g := impl.Graph{Nodes: 4, Edges: all[:6]}
	text := impl.FormatGraph(g)
	var results []impl.Graph
	for _, e := range before {
		put, _ := impl.PutEdge(g, impl.Edge{From: e.From, To: e.To, Weight: 500})
		cut, _ := impl.CutEdge(g, e.From, e.To)
		reversed, _ := impl.ReverseGraph(g)
		results = append(results, put, cut, reversed)
	}
	if !slices.Equal(all, before) {
		t.Errorf("the edges became %v", all)
	}
	for _, r := range results {
		edges := r.Edges[:cap(r.Edges)]
		for i := range edges {
			edges[i] = impl.Edge{From: 77, To: 77, Weight: 77}
		}
	}
	next := impl.NextNodes(g, 0)
	next = next[:cap(next)]
	for i := range next {
		next[i] = 77
	}
	if got := impl.FormatGraph(g); got != text || !slices.Equal(all, before) {
		t.Errorf("a change of a result makes %q of the graph %q", got, text)
	}
	if got := impl.NextNodes(g, 0); !slices.Equal(got, []int{1, 2, 3}) {
		t.Errorf("NextNodes = %v behind a change of a result", got)
	}
}

// edgesOf is the graph with these weights between nodes.
func edgesOf(nodes int, weights map[[2]int]int) impl.Graph {
	g := impl.Graph{Nodes: nodes}
	for ends, weight := range weights {
		g.Edges = append(g.Edges, impl.Edge{From: ends[0], To: ends[1], Weight: weight})
	}
	slices.SortFunc(g.Edges, func(a impl.Edge, b impl.Edge) int {
		return cmp.Or(cmp.Compare(a.From, b.From), cmp.Compare(a.To, b.To))
	})
	return g
}

// TestPromise2 puts and cuts edges one after the other, and checks each graph and its text against a map of weights.
func TestPromise2(t *testing.T) {
	random := rand.New(rand.NewSource(2))
	for range 40 {
		nodes := 1 + random.Intn(impl.MaxNodes)
		weights := map[[2]int]int{}
		g := impl.Graph{Nodes: nodes}
		for range 150 {
			ends := [2]int{random.Intn(nodes), random.Intn(nodes)}
			_, there := weights[ends]
			var got impl.Graph
			var ok, want bool
			if random.Intn(3) == 0 {
				want = there
				got, ok = impl.CutEdge(g, ends[0], ends[1])
				delete(weights, ends)
			} else {
				weight := 1 + random.Intn(impl.MaxWeight)
				want = ends[0] != ends[1] && (there || len(weights) < impl.MaxEdges)
				got, ok = impl.PutEdge(g, impl.Edge{From: ends[0], To: ends[1], Weight: weight})
				if want {
					weights[ends] = weight
				}
			}
			if ok != want {
				t.Fatalf("a change between %v in %q returns %v", ends, impl.FormatGraph(g), ok)
			}
			if ok {
				g = got
			} else {
				wantNoGraph(t, "a change that is not made", got, ok)
			}
			model := edgesOf(nodes, weights)
			if !impl.GraphValid(g) || !impl.GraphSame(g, model) {
				t.Fatalf("the graph is %v, want %v", g, model)
			}
			parsed, ok := impl.ParseGraph(impl.FormatGraph(g))
			if !ok || !impl.GraphSame(parsed, g) {
				t.Fatalf("the text %q is that of %v, %v", impl.FormatGraph(g), parsed, ok)
			}
		}
	}
}
