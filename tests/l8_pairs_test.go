package tests

import (
	"fmt"
	"math"
	"math/rand"
	"slices"
	"testing"

	"loop.example/graphviews/impl"
)

func matrixOf(m int, rows ...[]int) impl.Matrix {
	return impl.Matrix{Measure: m, Rows: rows}
}

func sameMatrix(a impl.Matrix, b impl.Matrix) bool {
	return a.Measure == b.Measure && slices.EqualFunc(a.Rows, b.Rows, slices.Equal)
}

func wantMatrix(t *testing.T, what string, got impl.Matrix, ok bool, want impl.Matrix) {
	t.Helper()
	if !ok || !sameMatrix(got, want) {
		t.Errorf("%s = %v, %v, want %v, true", what, got, ok, want)
	}
}

func wantNoMatrix(t *testing.T, what string, got impl.Matrix, ok bool) {
	t.Helper()
	if ok || got.Measure != 0 || len(got.Rows) != 0 {
		t.Errorf("%s = %v, %v, want the zero value, false", what, got, ok)
	}
}

// edgeMatrix fails the test if there is no matrix of the edges.
func edgeMatrix(t *testing.T, g impl.Graph, m int) impl.Matrix {
	t.Helper()
	x, ok := impl.EdgeMatrix(g, m)
	if !ok {
		t.Fatalf("%q has no matrix of the edges of the kind %d", impl.FormatGraph(g), m)
	}
	return x
}

// allPairs fails the test if there is no matrix of all pairs.
func allPairs(t *testing.T, g impl.Graph, m int) impl.Matrix {
	t.Helper()
	x, ok := impl.AllPairs(g, m)
	if !ok {
		t.Fatalf("%q has no matrix of all pairs of the kind %d", impl.FormatGraph(g), m)
	}
	return x
}

func copyOfMatrix(x impl.Matrix) impl.Matrix {
	rows := slices.Clone(x.Rows)
	for i, numbers := range rows {
		rows[i] = slices.Clone(numbers)
	}
	return impl.Matrix{Measure: x.Measure, Rows: rows}
}

// sameElements is the matrix of which each element is value.
func sameElements(m int, nodes int, value int) impl.Matrix {
	x := impl.Matrix{Measure: m}
	for range nodes {
		x.Rows = append(x.Rows, slices.Repeat([]int{value}, nodes))
	}
	return x
}

// noEdges is the matrix of a graph without edges.
func (k kindOfMeasures) noEdges(nodes int) impl.Matrix {
	x := impl.Matrix{Measure: k.m}
	for node := range nodes {
		x.Rows = append(x.Rows, startOf(k, nodes, node).Values)
	}
	return x
}

// randomMatrix has any measures also from a node to itself.
func (k kindOfMeasures) randomMatrix(random *rand.Rand, nodes int) impl.Matrix {
	x := impl.Matrix{Measure: k.m}
	for range nodes {
		x.Rows = append(x.Rows, k.randomView(random, nodes).Values)
	}
	return x
}

// better fails the test if BetterOf returns false.
func better(t *testing.T, m int, a int, b int) int {
	t.Helper()
	v, ok := impl.BetterOf(m, a, b)
	if !ok {
		t.Fatalf("BetterOf(%d, %d, %d) = %d, %v", m, a, b, v, ok)
	}
	return v
}

// timesByScans does what the document says of TimesMatrix.
func timesByScans(t *testing.T, a impl.Matrix, b impl.Matrix) impl.Matrix {
	t.Helper()
	none, _ := impl.NoPath(a.Measure)
	x := sameElements(a.Measure, len(a.Rows), none)
	for i := range x.Rows {
		for k := range x.Rows {
			for n := range x.Rows {
				x.Rows[i][k] = better(t, a.Measure, x.Rows[i][k], extended(t, a.Measure, a.Rows[i][n], b.Rows[n][k]))
			}
		}
	}
	return x
}

// closedByScans does what the document says of CloseMatrix.
func closedByScans(t *testing.T, x impl.Matrix) impl.Matrix {
	t.Helper()
	x = copyOfMatrix(x)
	for n := range x.Rows {
		for i := range x.Rows {
			for k := range x.Rows {
				x.Rows[i][k] = better(t, x.Measure, x.Rows[i][k], extended(t, x.Measure, x.Rows[i][n], x.Rows[n][k]))
			}
		}
	}
	return x
}

// putPairByScans does what the document says of PutPair.
func putPairByScans(t *testing.T, x impl.Matrix, e impl.Edge) impl.Matrix {
	t.Helper()
	edge, ok := impl.EdgeMeasure(x.Measure, e.Weight)
	if !ok {
		t.Fatalf("the edge %v has no measure of the kind %d", e, x.Measure)
	}
	put := copyOfMatrix(x)
	for i := range x.Rows {
		for k := range x.Rows {
			through := extended(t, x.Measure, extended(t, x.Measure, x.Rows[i][e.From], edge), x.Rows[e.To][k])
			put.Rows[i][k] = better(t, x.Measure, x.Rows[i][k], through)
		}
	}
	return put
}

// worstByScans does what the document says of WorstOf.
func worstByScans(x impl.Matrix, node int) int {
	worst, _ := impl.EmptyPath(x.Measure)
	for k, value := range x.Rows[node] {
		if k != node && impl.IsBetter(x.Measure, worst, value) {
			worst = value
		}
	}
	return worst
}

// centerByScans looks for a node for which there is none with a better worst measure.
func centerByScans(x impl.Matrix) int {
	return slices.IndexFunc(firstNodes(len(x.Rows)), func(center int) bool {
		return !slices.ContainsFunc(firstNodes(len(x.Rows)), func(node int) bool {
			return impl.IsBetter(x.Measure, worstByScans(x, node), worstByScans(x, center))
		})
	})
}

// wantPairsLikeScans compares all functions with transcriptions of the document.
func wantPairsLikeScans(t *testing.T, a impl.Matrix, b impl.Matrix, e impl.Edge) {
	t.Helper()
	if !impl.MatrixValid(a) || !impl.MatrixValid(b) {
		t.Fatalf("%v or %v is not valid", a, b)
	}
	got, ok := impl.TimesMatrix(a, b)
	wantMatrix(t, fmt.Sprintf("TimesMatrix of %v and %v", a, b), got, ok, timesByScans(t, a, b))
	got, ok = impl.CloseMatrix(a)
	wantMatrix(t, fmt.Sprintf("CloseMatrix of %v", a), got, ok, closedByScans(t, a))
	if e.From != e.To {
		got, ok = impl.PutPair(a, e)
		wantMatrix(t, fmt.Sprintf("PutPair of %v with %v", a, e), got, ok, putPairByScans(t, a, e))
	}
	for node := range a.Rows {
		worst, ok := impl.WorstOf(a, node)
		wantValue(t, fmt.Sprintf("WorstOf of %d in %v", node, a), worst, ok, worstByScans(a, node))
	}
	center, ok := impl.CenterOf(a)
	wantValue(t, fmt.Sprintf("CenterOf of %v", a), center, ok, centerByScans(a))
}

func TestPairExample(t *testing.T) {
	x := allPairs(t, graphOf(t, "3 0>1=5 1>2=7"), impl.MeasureLength)
	wantValue(t, "the length from 0 to 2", x.Rows[0][2], true, 12)
	worst, ok := impl.WorstOf(x, 0)
	wantValue(t, "the worst length from 0", worst, ok, 12)
}

func TestMatrixValid(t *testing.T) {
	for _, k := range allKinds() {
		for nodes := 1; nodes <= impl.MaxNodes; nodes++ {
			for _, value := range k.someValues() {
				if x := sameElements(k.m, nodes, value); !impl.MatrixValid(x) {
					t.Errorf("%v is not valid", x)
				}
			}
		}
	}
	// A measure from a node to itself can be any.
	if !impl.MatrixValid(matrixOf(impl.MeasureLength, []int{100000, 3}, []int{0, 7})) {
		t.Error("MatrixValid asks for the measure of a path without edges")
	}
}

func invalidMatrices() map[string]impl.Matrix {
	matrices := map[string]impl.Matrix{
		"the zero value":       {},
		"no rows":              {Measure: 1, Rows: [][]int{}},
		"a row of nothing":     matrixOf(1, []int{}),
		"a row that is nil":    matrixOf(1, nil),
		"a row too many":       sameElements(1, impl.MaxNodes+1, 0),
		"many rows":            sameElements(1, 100, 0),
		"the first row short":  matrixOf(1, []int{0}, []int{5, 0}),
		"the last row short":   matrixOf(1, []int{0, 5}, []int{5}),
		"the first row long":   matrixOf(1, []int{0, 5, 5}, []int{5, 0}),
		"the last row long":    matrixOf(1, []int{0, 5}, []int{5, 0, 5}),
		"a row missing":        matrixOf(1, []int{0, 5}),
		"a row for one too":    matrixOf(1, []int{0, 5}, []int{5, 0}, []int{5, 5}),
		"an empty row in them": matrixOf(1, []int{0, 5}, nil),
		"other lengths, but the same number of elements": matrixOf(1, []int{0, 5, 5}, []int{5}),
		"elements for too many nodes":                    {Measure: 1, Rows: slices.Repeat([][]int{make([]int, impl.MaxNodes+1)}, impl.MaxNodes)},
	}
	for _, m := range invalidKinds() {
		matrices[fmt.Sprintf("the kind %d", m)] = sameElements(m, 3, 0)
		matrices[fmt.Sprintf("the kind %d with ones", m)] = sameElements(m, 1, 1)
	}
	for _, k := range allKinds() {
		for _, bad := range k.invalidValues() {
			for place := range 9 {
				x := sameElements(k.m, 3, k.empty)
				x.Rows[place/3][place%3] = bad
				matrices[fmt.Sprintf("%s: %d at %d, %d", k.name, bad, place/3, place%3)] = x
			}
			matrices[fmt.Sprintf("%s: %d alone", k.name, bad)] = matrixOf(k.m, []int{bad})
		}
	}
	return matrices
}

// wantNoPairs checks the results for a matrix that is not valid.
func wantNoPairs(t *testing.T, what string, x impl.Matrix) {
	t.Helper()
	if impl.MatrixValid(x) {
		t.Errorf("%s is valid", what)
	}
	got, ok := impl.CloseMatrix(x)
	wantNoMatrix(t, what+": CloseMatrix", got, ok)
	got, ok = impl.TimesMatrix(x, x)
	wantNoMatrix(t, what+": TimesMatrix with itself", got, ok)
	for _, k := range allKinds() {
		for _, other := range []impl.Matrix{k.noEdges(1), k.noEdges(3), k.noEdges(max(1, min(len(x.Rows), impl.MaxNodes)))} {
			got, ok = impl.TimesMatrix(x, other)
			wantNoMatrix(t, what+": TimesMatrix at the left", got, ok)
			got, ok = impl.TimesMatrix(other, x)
			wantNoMatrix(t, what+": TimesMatrix at the right", got, ok)
		}
	}
	for _, e := range []impl.Edge{{From: 0, To: 1, Weight: 1}, {From: 2, To: 0, Weight: 7}, {}} {
		got, ok = impl.PutPair(x, e)
		wantNoMatrix(t, what+": PutPair", got, ok)
	}
	for _, node := range []int{-1, 0, 1, 2, impl.MaxNodes} {
		worst, ok := impl.WorstOf(x, node)
		wantNoValue(t, what+": WorstOf", worst, ok)
	}
	center, ok := impl.CenterOf(x)
	wantNoValue(t, what+": CenterOf", center, ok)
}

func TestInvalidMatrices(t *testing.T) {
	for name, x := range invalidMatrices() {
		wantNoPairs(t, name, x)
	}
}

// matrixOfGraph is a graph with the rows of a matrix that comes from it.
type matrixOfGraph struct {
	text string
	m    int
	want [][]int
}

func (c matrixOfGraph) check(t *testing.T, what string, from func(g impl.Graph, m int) (impl.Matrix, bool)) {
	t.Helper()
	got, ok := from(graphOf(t, c.text), c.m)
	wantMatrix(t, fmt.Sprintf("%s of the kind %d of %q", what, c.m, c.text), got, ok, matrixOf(c.m, c.want...))
}

func TestMatricesWithoutEdges(t *testing.T) {
	none := impl.MaxMeasure
	for _, c := range []matrixOfGraph{
		{"1", impl.MeasureLength, [][]int{{0}}},
		{"1", impl.MeasureWidth, [][]int{{100000}}},
		{"1", impl.MeasurePeak, [][]int{{0}}},
		{"1", impl.MeasureReach, [][]int{{1}}},
		{"1", impl.MeasureHops, [][]int{{0}}},
		{"2", impl.MeasureLength, [][]int{{0, none}, {none, 0}}},
		{"2", impl.MeasureWidth, [][]int{{100000, 0}, {0, 100000}}},
		{"2", impl.MeasurePeak, [][]int{{0, none}, {none, 0}}},
		{"2", impl.MeasureReach, [][]int{{1, 0}, {0, 1}}},
		{"2", impl.MeasureHops, [][]int{{0, none}, {none, 0}}},
	} {
		c.check(t, "the edges", impl.EdgeMatrix)
		c.check(t, "all pairs", impl.AllPairs)
	}
	for _, k := range allKinds() {
		for nodes := 1; nodes <= impl.MaxNodes; nodes++ {
			what, g := fmt.Sprintf("%s: %d nodes without edges", k.name, nodes), impl.Graph{Nodes: nodes}
			wantMatrix(t, what, edgeMatrix(t, g, k.m), true, k.noEdges(nodes))
			wantMatrix(t, what, allPairs(t, g, k.m), true, k.noEdges(nodes))
		}
	}
}

func TestEdgeMatrix(t *testing.T) {
	none := impl.MaxMeasure
	text := "3 0>1=5 1>2=999 2>1=1"
	cases := []matrixOfGraph{
		{"2 1>0=7", impl.MeasureLength, [][]int{{0, none}, {7, 0}}},
		{"2 0>1=3 1>0=7", impl.MeasureWidth, [][]int{{100000, 3}, {7, 100000}}},
		// No two edges are put together, even if this is better.
		{"3 0>1=5 0>2=50 1>2=7", impl.MeasureLength, [][]int{{0, 5, 50}, {none, 0, 7}, {none, none, 0}}},
		{text, impl.MeasureLength, [][]int{{0, 5, none}, {none, 0, 999}, {none, 1, 0}}},
		{text, impl.MeasureWidth, [][]int{{100000, 5, 0}, {0, 100000, 999}, {0, 1, 100000}}},
		{text, impl.MeasurePeak, [][]int{{0, 5, none}, {none, 0, 999}, {none, 1, 0}}},
		{text, impl.MeasureReach, [][]int{{1, 1, 0}, {0, 1, 1}, {0, 1, 1}}},
		{text, impl.MeasureHops, [][]int{{0, 1, none}, {none, 0, 1}, {none, 1, 0}}},
	}
	for _, c := range cases {
		c.check(t, "the edges", impl.EdgeMatrix)
	}
}

func TestEdgeMatrixLikeScans(t *testing.T) {
	random := rand.New(rand.NewSource(80))
	graphs := []impl.Graph{greatestGraph(), row(impl.MaxNodes, impl.MaxWeight), {Nodes: impl.MaxNodes}}
	for range 60 {
		graphs = append(graphs, randomGraph(random, 1+random.Intn(impl.MaxNodes), random.Intn(impl.MaxEdges+1), impl.MaxWeight))
	}
	for _, g := range graphs {
		for _, k := range allKinds() {
			want := k.noEdges(g.Nodes)
			for from := range g.Nodes {
				for to := range g.Nodes {
					if weight, there := impl.WeightOf(g, from, to); there {
						want.Rows[from][to], _ = impl.EdgeMeasure(k.m, weight)
					}
				}
			}
			got, ok := impl.EdgeMatrix(g, k.m)
			wantMatrix(t, fmt.Sprintf("%s: the edges of %q", k.name, impl.FormatGraph(g)), got, ok, want)
		}
	}
}

func TestMatricesOfInvalidGraphs(t *testing.T) {
	wantNone := func(what string, g impl.Graph, m int) {
		t.Helper()
		got, ok := impl.EdgeMatrix(g, m)
		wantNoMatrix(t, what+": EdgeMatrix", got, ok)
		got, ok = impl.AllPairs(g, m)
		wantNoMatrix(t, what+": AllPairs", got, ok)
	}
	for name, g := range invalidGraphs() {
		for _, k := range allKinds() {
			wantNone(k.name+" of "+name, g, k.m)
		}
	}
	for _, m := range invalidKinds() {
		for _, text := range textsOfGraphs() {
			wantNone(fmt.Sprintf("the kind %d of %q", m, text), graphOf(t, text), m)
		}
		wantNone(fmt.Sprintf("the kind %d of no graph", m), impl.Graph{}, m)
	}
}

func TestTimesMatrix(t *testing.T) {
	small, great := [][]int{{1, 2}, {3, 4}}, [][]int{{10, 20}, {30, 40}}
	cases := []struct {
		m    int
		a    [][]int
		b    [][]int
		want [][]int
	}{
		{impl.MeasureLength, small, great, [][]int{{11, 21}, {13, 23}}},
		{impl.MeasureLength, great, small, [][]int{{11, 12}, {31, 32}}},
		{impl.MeasureWidth, small, great, [][]int{{2, 2}, {4, 4}}},
		{impl.MeasureWidth, great, small, [][]int{{3, 4}, {3, 4}}},
		{impl.MeasurePeak, small, great, [][]int{{10, 20}, {10, 20}}},
		{impl.MeasurePeak, great, small, [][]int{{10, 10}, {30, 30}}},
		{impl.MeasureHops, small, great, [][]int{{11, 21}, {13, 23}}},
		{impl.MeasureReach, [][]int{{0, 1}, {0, 0}}, [][]int{{0, 0}, {1, 0}}, [][]int{{1, 0}, {0, 0}}},
		{impl.MeasureReach, [][]int{{0, 0}, {1, 0}}, [][]int{{0, 1}, {0, 0}}, [][]int{{0, 0}, {0, 1}}},
		{impl.MeasureLength, [][]int{{3}}, [][]int{{4}}, [][]int{{7}}},
		{impl.MeasureWidth, [][]int{{3}}, [][]int{{4}}, [][]int{{3}}},
		// The element itself is not kept, neither that of a nor that of b.
		{impl.MeasureLength, [][]int{{5, 100000}, {100000, 5}}, [][]int{{9, 1}, {1, 9}}, [][]int{{14, 6}, {6, 14}}},
		{impl.MeasureLength, [][]int{{100000, 5}, {7, 100000}}, [][]int{{100000, 5}, {7, 100000}}, [][]int{{12, 100000}, {100000, 12}}},
		// The best one can be of the first node, of the last one, and of one between them.
		{impl.MeasureLength, [][]int{{1, 5, 9}, {5, 1, 9}, {9, 5, 1}}, [][]int{{2, 2, 2}, {2, 2, 2}, {2, 2, 2}}, [][]int{{3, 3, 3}, {3, 3, 3}, {3, 3, 3}}},
		// Sums stop at the greatest measure.
		{impl.MeasureLength, [][]int{{50000}}, [][]int{{49999}}, [][]int{{99999}}},
		{impl.MeasureLength, [][]int{{50000}}, [][]int{{50000}}, [][]int{{100000}}},
		{impl.MeasureHops, [][]int{{99999}}, [][]int{{2}}, [][]int{{100000}}},
		{impl.MeasureLength, [][]int{{100000}}, [][]int{{100000}}, [][]int{{100000}}},
	}
	for _, c := range cases {
		got, ok := impl.TimesMatrix(matrixOf(c.m, c.a...), matrixOf(c.m, c.b...))
		wantMatrix(t, fmt.Sprintf("%v times %v of the kind %d", c.a, c.b, c.m), got, ok, matrixOf(c.m, c.want...))
	}
}

func TestProductsOfUnlikeMatrices(t *testing.T) {
	for _, k := range allKinds() {
		for _, other := range allKinds() {
			// Zeros and ones are measures of each kind.
			got, ok := impl.TimesMatrix(sameElements(k.m, 2, 1), sameElements(other.m, 2, 1))
			if k.m != other.m {
				wantNoMatrix(t, k.name+" times "+other.name, got, ok)
			} else if !ok {
				t.Errorf("%s has no product", k.name)
			}
		}
		for nodes := 1; nodes <= impl.MaxNodes; nodes++ {
			for more := 1; more <= impl.MaxNodes; more++ {
				if nodes != more {
					got, ok := impl.TimesMatrix(k.noEdges(nodes), k.noEdges(more))
					wantNoMatrix(t, fmt.Sprintf("%s: %d times %d nodes", k.name, nodes, more), got, ok)
				}
			}
		}
	}
}

func TestProductsWithoutEdges(t *testing.T) {
	random := rand.New(rand.NewSource(81))
	for _, k := range allKinds() {
		for nodes := 1; nodes <= impl.MaxNodes; nodes++ {
			x, one, zero := k.randomMatrix(random, nodes), k.noEdges(nodes), sameElements(k.m, nodes, k.none)
			for _, c := range [][3]impl.Matrix{{x, one, x}, {one, x, x}, {x, zero, zero}, {zero, x, zero}} {
				got, ok := impl.TimesMatrix(c[0], c[1])
				wantMatrix(t, fmt.Sprintf("%v times %v", c[0], c[1]), got, ok, c[2])
			}
		}
	}
}

// TestPowers checks that the products of the edges with themselves have the best walks with so many edges.
func TestPowers(t *testing.T) {
	random := rand.New(rand.NewSource(82))
	for range 20 {
		g := randomGraph(random, 1+random.Intn(8), random.Intn(20), 9)
		for _, k := range allKinds() {
			edges := edgeMatrix(t, g, k.m)
			power := k.noEdges(g.Nodes)
			for count := range g.Nodes + 2 {
				for source := range g.Nodes {
					for target := range g.Nodes {
						want, ok := impl.BestWalk(g, k.m, source, target, count)
						wantValue(t, fmt.Sprintf("%s: the power %d of %q from %d to %d", k.name, count, impl.FormatGraph(g), source, target), power.Rows[source][target], ok, want)
					}
				}
				left, ok := impl.TimesMatrix(power, edges)
				right, rightOk := impl.TimesMatrix(edges, power)
				if !ok || !rightOk || !sameMatrix(left, right) {
					t.Fatalf("%s: the edges at the right of the power %d of %q give %v, %v, and at the left %v, %v", k.name, count, impl.FormatGraph(g), left, ok, right, rightOk)
				}
				power = left
			}
		}
	}
}

func TestCloseMatrix(t *testing.T) {
	none := impl.MaxMeasure
	cases := []struct {
		m    int
		rows [][]int
		want [][]int
	}{
		{impl.MeasureLength, [][]int{{0}}, [][]int{{0}}},
		{impl.MeasureLength, [][]int{{7}}, [][]int{{7}}},
		{impl.MeasureLength, [][]int{{none}}, [][]int{{none}}},
		{impl.MeasureWidth, [][]int{{7}}, [][]int{{7}}},
		{impl.MeasureReach, [][]int{{0}}, [][]int{{0}}},
		{impl.MeasureLength, [][]int{{0, 5}, {7, 0}}, [][]int{{0, 5}, {7, 0}}},
		// A node to itself has the best cycle, not the path without edges.
		{impl.MeasureLength, [][]int{{none, 5}, {7, none}}, [][]int{{12, 5}, {7, 12}}},
		{impl.MeasureLength, [][]int{{3, 5}, {7, 40}}, [][]int{{3, 5}, {7, 12}}},
		{impl.MeasureWidth, [][]int{{0, 5}, {7, 0}}, [][]int{{5, 5}, {7, 5}}},
		{impl.MeasurePeak, [][]int{{none, 5}, {7, none}}, [][]int{{7, 5}, {7, 7}}},
		{impl.MeasureReach, [][]int{{0, 1}, {1, 0}}, [][]int{{1, 1}, {1, 1}}},
		{impl.MeasureReach, [][]int{{0, 1}, {0, 0}}, [][]int{{0, 1}, {0, 0}}},
		{impl.MeasureHops, [][]int{{none, 1}, {1, none}}, [][]int{{2, 1}, {1, 2}}},
		// The only way from 0 to 1 leads through 3 and then 2, or through 2 and then 3: against the order of the nodes, and along it.
		{impl.MeasureLength, [][]int{{0, none, none, 1}, {none, 0, none, none}, {none, 1, 0, none}, {none, none, 1, 0}}, [][]int{{0, 3, 2, 1}, {none, 0, none, none}, {none, 1, 0, none}, {none, 2, 1, 0}}},
		{impl.MeasureLength, [][]int{{0, none, 1, none}, {none, 0, none, none}, {none, none, 0, 1}, {none, 1, none, 0}}, [][]int{{0, 3, 1, 2}, {none, 0, none, none}, {none, 2, 0, 1}, {none, 1, none, 0}}},
		// Sums stop at the greatest measure.
		{impl.MeasureLength, [][]int{{0, 50000, none}, {none, 0, 49999}, {none, none, 0}}, [][]int{{0, 50000, 99999}, {none, 0, 49999}, {none, none, 0}}},
		{impl.MeasureLength, [][]int{{0, 50000, none}, {none, 0, 50001}, {none, none, 0}}, [][]int{{0, 50000, none}, {none, 0, 50001}, {none, none, 0}}},
	}
	for _, c := range cases {
		got, ok := impl.CloseMatrix(matrixOf(c.m, c.rows...))
		wantMatrix(t, fmt.Sprintf("CloseMatrix of %v of the kind %d", c.rows, c.m), got, ok, matrixOf(c.m, c.want...))
		again, ok := impl.CloseMatrix(got)
		wantMatrix(t, fmt.Sprintf("CloseMatrix of %v", got), again, ok, got)
	}
}

func TestPairsLikeScans(t *testing.T) {
	random := rand.New(rand.NewSource(83))
	for _, k := range allKinds() {
		for nodes := 1; nodes <= impl.MaxNodes; nodes++ {
			for range 6 {
				e := impl.Edge{From: random.Intn(nodes), To: random.Intn(nodes), Weight: 1 + random.Intn(impl.MaxWeight)}
				wantPairsLikeScans(t, k.randomMatrix(random, nodes), k.randomMatrix(random, nodes), e)
			}
			g := randomGraph(random, nodes, random.Intn(2*nodes), 20)
			e := impl.Edge{From: random.Intn(nodes), To: random.Intn(nodes), Weight: 1 + random.Intn(20)}
			wantPairsLikeScans(t, edgeMatrix(t, g, k.m), allPairs(t, g, k.m), e)
			wantPairsLikeScans(t, allPairs(t, g, k.m), edgeMatrix(t, g, k.m), e)
		}
	}
}

func TestAllPairs(t *testing.T) {
	none := impl.MaxMeasure
	net := "4 0>1=5 0>2=3 1>3=1 2>1=4"
	cases := []matrixOfGraph{
		{"3 0>1=5 1>2=7", impl.MeasureLength, [][]int{{0, 5, 12}, {none, 0, 7}, {none, none, 0}}},
		// An edge closes a cycle.
		{"3 0>1=5 1>2=7 2>0=1", impl.MeasureLength, [][]int{{0, 5, 12}, {8, 0, 7}, {1, 6, 0}}},
		{"3 0>1=5 1>2=7 2>0=1", impl.MeasureWidth, [][]int{{100000, 5, 5}, {1, 100000, 7}, {1, 1, 100000}}},
		{"3 0>1=5 1>2=7 2>0=1", impl.MeasurePeak, [][]int{{0, 5, 7}, {7, 0, 7}, {1, 5, 0}}},
		{"3 0>1=5 1>2=7 2>0=1", impl.MeasureReach, [][]int{{1, 1, 1}, {1, 1, 1}, {1, 1, 1}}},
		{"3 0>1=5 1>2=7 2>0=1", impl.MeasureHops, [][]int{{0, 1, 2}, {2, 0, 1}, {1, 2, 0}}},
		{"2 0>1=999 1>0=999", impl.MeasureLength, [][]int{{0, 999}, {999, 0}}},
		{net, impl.MeasureLength, [][]int{{0, 5, 3, 6}, {none, 0, none, 1}, {none, 4, 0, 5}, {none, none, none, 0}}},
		{net, impl.MeasureWidth, [][]int{{100000, 5, 3, 1}, {0, 100000, 0, 1}, {0, 4, 100000, 1}, {0, 0, 0, 100000}}},
		{net, impl.MeasurePeak, [][]int{{0, 4, 3, 4}, {none, 0, none, 1}, {none, 4, 0, 4}, {none, none, none, 0}}},
		{net, impl.MeasureReach, [][]int{{1, 1, 1, 1}, {0, 1, 0, 1}, {0, 1, 1, 1}, {0, 0, 0, 1}}},
		{net, impl.MeasureHops, [][]int{{0, 1, 1, 2}, {none, 0, none, 1}, {none, 1, 0, 2}, {none, none, none, 0}}},
		// Two parts without a path between them, one of which is a cycle.
		{"4 0>1=2 1>0=3 2>3=4", impl.MeasureLength, [][]int{{0, 2, none, none}, {3, 0, none, none}, {none, none, 0, 4}, {none, none, none, 0}}},
		{"4 0>1=2 1>0=3 2>3=4", impl.MeasureWidth, [][]int{{100000, 2, 0, 0}, {3, 100000, 0, 0}, {0, 0, 100000, 4}, {0, 0, 0, 100000}}},
	}
	for _, c := range cases {
		c.check(t, "all pairs", impl.AllPairs)
	}
}

// TestSquares checks that squaring the matrix of the edges again and again, and closing it, have the same result.
func TestSquares(t *testing.T) {
	random := rand.New(rand.NewSource(84))
	graphs := []impl.Graph{greatestGraph(), row(impl.MaxNodes, impl.MaxWeight), ring(impl.MaxNodes, impl.MaxWeight)}
	for range 60 {
		graphs = append(graphs, randomGraph(random, 1+random.Intn(impl.MaxNodes), random.Intn(impl.MaxEdges+1), 30))
	}
	for _, g := range graphs {
		for _, k := range allKinds() {
			square := edgeMatrix(t, g, k.m)
			for range 4 { // A path has at most 11 edges, and the last square has up to 16.
				square, _ = impl.TimesMatrix(square, square)
			}
			closed, ok := impl.CloseMatrix(edgeMatrix(t, g, k.m))
			wantMatrix(t, fmt.Sprintf("%s: the squares of the edges of %q", k.name, impl.FormatGraph(g)), square, ok, closed)
			all, ok := impl.AllPairs(g, k.m)
			wantMatrix(t, fmt.Sprintf("%s: all pairs of %q", k.name, impl.FormatGraph(g)), all, ok, closed)
			again, ok := impl.TimesMatrix(all, all)
			wantMatrix(t, fmt.Sprintf("%s: the square of all pairs of %q", k.name, impl.FormatGraph(g)), again, ok, all)
		}
	}
}

func TestPutPair(t *testing.T) {
	none := impl.MaxMeasure
	long := [][]int{{0, 5, 12}, {none, 0, 7}, {none, none, 0}}
	wide := [][]int{{100000, 5, 5}, {0, 100000, 7}, {0, 0, 100000}}
	cases := []struct {
		m    int
		rows [][]int
		e    impl.Edge
		want [][]int
	}{
		// An edge closes a cycle.
		{impl.MeasureLength, long, impl.Edge{From: 2, To: 0, Weight: 1}, [][]int{{0, 5, 12}, {8, 0, 7}, {1, 6, 0}}},
		{impl.MeasureWidth, wide, impl.Edge{From: 2, To: 0, Weight: 6}, [][]int{{100000, 5, 5}, {6, 100000, 7}, {6, 5, 100000}}},
		{impl.MeasurePeak, [][]int{{0, 5, 7}, {none, 0, 7}, {none, none, 0}}, impl.Edge{From: 2, To: 0, Weight: 6}, [][]int{{0, 5, 7}, {7, 0, 7}, {6, 6, 0}}},
		{impl.MeasureReach, [][]int{{1, 1, 1}, {0, 1, 1}, {0, 0, 1}}, impl.Edge{From: 2, To: 0, Weight: 6}, [][]int{{1, 1, 1}, {1, 1, 1}, {1, 1, 1}}},
		{impl.MeasureHops, [][]int{{0, 1, 2}, {none, 0, 1}, {none, none, 0}}, impl.Edge{From: 2, To: 0, Weight: 6}, [][]int{{0, 1, 2}, {2, 0, 1}, {1, 2, 0}}},
		{impl.MeasureLength, long, impl.Edge{From: 1, To: 0, Weight: 999}, [][]int{{0, 5, 12}, {999, 0, 7}, {none, none, 0}}},
		// A shorter way, one that is as long, and one that is longer.
		{impl.MeasureLength, long, impl.Edge{From: 0, To: 2, Weight: 11}, [][]int{{0, 5, 11}, {none, 0, 7}, {none, none, 0}}},
		{impl.MeasureLength, long, impl.Edge{From: 0, To: 2, Weight: 12}, long},
		{impl.MeasureLength, long, impl.Edge{From: 0, To: 2, Weight: 13}, long},
		// The same edge with another weight.
		{impl.MeasureLength, long, impl.Edge{From: 0, To: 1, Weight: 2}, [][]int{{0, 2, 9}, {none, 0, 7}, {none, none, 0}}},
		{impl.MeasureLength, long, impl.Edge{From: 1, To: 2, Weight: 1}, [][]int{{0, 5, 6}, {none, 0, 1}, {none, none, 0}}},
		{impl.MeasureLength, long, impl.Edge{From: 1, To: 2, Weight: 8}, long},
		{impl.MeasureWidth, wide, impl.Edge{From: 0, To: 1, Weight: 9}, [][]int{{100000, 9, 7}, {0, 100000, 7}, {0, 0, 100000}}},
		{impl.MeasureWidth, wide, impl.Edge{From: 0, To: 1, Weight: 4}, wide},
		// Ways behind each other, and none without the edge.
		{impl.MeasureLength, [][]int{{0, 1, none, none}, {none, 0, none, none}, {none, none, 0, 2}, {none, none, none, 0}}, impl.Edge{From: 1, To: 2, Weight: 3}, [][]int{{0, 1, 4, 6}, {none, 0, 3, 5}, {none, none, 0, 2}, {none, none, none, 0}}},
		// The elements from a node to itself count like the others.
		{impl.MeasureLength, [][]int{{9, none}, {none, 9}}, impl.Edge{From: 0, To: 1, Weight: 1}, [][]int{{9, 19}, {none, 9}}},
		{impl.MeasureLength, [][]int{{none, none}, {2, none}}, impl.Edge{From: 0, To: 1, Weight: 1}, [][]int{{none, none}, {2, none}}},
		{impl.MeasureWidth, [][]int{{3, 0}, {0, 2}}, impl.Edge{From: 1, To: 0, Weight: 9}, [][]int{{3, 0}, {2, 2}}},
		// Sums stop at the greatest measure.
		{impl.MeasureLength, [][]int{{99000, none}, {none, 0}}, impl.Edge{From: 0, To: 1, Weight: 999}, [][]int{{99000, 99999}, {none, 0}}},
		{impl.MeasureLength, [][]int{{99001, none}, {none, 0}}, impl.Edge{From: 0, To: 1, Weight: 999}, [][]int{{99001, none}, {none, 0}}},
	}
	for _, c := range cases {
		got, ok := impl.PutPair(matrixOf(c.m, c.rows...), c.e)
		wantMatrix(t, fmt.Sprintf("%v of the kind %d with %v", c.rows, c.m, c.e), got, ok, matrixOf(c.m, c.want...))
	}
}

func TestEdgesThatAreNoneOfPairs(t *testing.T) {
	for _, k := range allKinds() {
		for nodes := 1; nodes <= impl.MaxNodes; nodes++ {
			x := k.noEdges(nodes)
			bad := []impl.Edge{{}, {From: 0, To: 0, Weight: 1}, {From: nodes - 1, To: nodes - 1, Weight: 1}}
			for _, node := range []int{-1, nodes, impl.MaxNodes, math.MinInt, math.MaxInt} {
				bad = append(bad, impl.Edge{From: node, To: 0, Weight: 1}, impl.Edge{From: 0, To: node, Weight: 1}, impl.Edge{From: node, To: node, Weight: 1})
			}
			for _, weight := range []int{0, -1, impl.MaxWeight + 1, impl.MaxMeasure, math.MinInt, math.MaxInt} {
				bad = append(bad, impl.Edge{From: 0, To: nodes - 1, Weight: weight}, impl.Edge{From: nodes - 1, To: 0, Weight: weight})
			}
			for _, e := range bad {
				got, ok := impl.PutPair(x, e)
				wantNoMatrix(t, fmt.Sprintf("%s: PutPair of %d nodes with %v", k.name, nodes, e), got, ok)
			}
		}
	}
}

// worstCase is a matrix with WorstOf for each node, and with CenterOf.
type worstCase struct {
	what   string
	m      int
	rows   [][]int
	worst  []int
	center int
}

func TestWorstOfAndCenterOf(t *testing.T) {
	none := impl.MaxMeasure
	cases := []worstCase{
		{"a row of edges", impl.MeasureLength, [][]int{{0, 5, 12}, {none, 0, 7}, {none, none, 0}}, []int{12, none, none}, 0},
		{"a cycle", impl.MeasureLength, [][]int{{0, 5, 12}, {8, 0, 7}, {1, 6, 0}}, []int{12, 8, 6}, 2},
		{"the center between two others", impl.MeasureLength, [][]int{{0, 1, 2}, {1, 0, 1}, {2, 1, 0}}, []int{2, 1, 2}, 1},
		{"a width", impl.MeasureWidth, [][]int{{100000, 5, 3}, {4, 100000, 9}, {8, 2, 100000}}, []int{3, 4, 2}, 1},
		{"a width without a path", impl.MeasureWidth, [][]int{{100000, 0}, {1, 100000}}, []int{0, 1}, 1},
		{"a peak", impl.MeasurePeak, [][]int{{0, 7, 9}, {7, 0, 8}, {5, 8, 0}}, []int{9, 8, 8}, 1},
		{"a reach", impl.MeasureReach, [][]int{{1, 0, 1}, {1, 1, 0}, {1, 1, 1}}, []int{0, 0, 1}, 2},
		{"hops", impl.MeasureHops, [][]int{{0, 2, 1}, {3, 0, 3}, {1, 1, 0}}, []int{2, 3, 1}, 2},
		// There are no others.
		{"one node with a length", impl.MeasureLength, [][]int{{0}}, []int{0}, 0},
		{"one node with a width", impl.MeasureWidth, [][]int{{100000}}, []int{100000}, 0},
		{"one node that is far from itself", impl.MeasureLength, [][]int{{none}}, []int{0}, 0},
		{"one node that is narrow", impl.MeasureWidth, [][]int{{3}}, []int{100000}, 0},
		{"one node that is high", impl.MeasurePeak, [][]int{{3}}, []int{0}, 0},
		{"one node that is not reached", impl.MeasureReach, [][]int{{0}}, []int{1}, 0},
		{"one node with hops", impl.MeasureHops, [][]int{{3}}, []int{0}, 0},
		// None is worse than a path without edges.
		{"no lengths", impl.MeasureLength, [][]int{{0, 0}, {0, 0}}, []int{0, 0}, 0},
		{"the greatest widths", impl.MeasureWidth, [][]int{{100000, 100000}, {100000, 100000}}, []int{100000, 100000}, 0},
		{"all are reached", impl.MeasureReach, [][]int{{1, 1}, {1, 1}}, []int{1, 1}, 0},
		// The element from a node to itself does not count, even if it is the worst one.
		{"nodes that are far from themselves", impl.MeasureLength, [][]int{{none, 5}, {4, none}}, []int{5, 4}, 1},
		{"nodes that are narrow", impl.MeasureWidth, [][]int{{0, 5}, {4, 0}}, []int{5, 4}, 0},
		{"the last node is far from itself", impl.MeasureLength, [][]int{{0, 5, 6}, {5, 0, 7}, {2, 3, 9}}, []int{6, 7, 3}, 2},
		// The worst one can be at each place.
		{"worst at the first and last place", impl.MeasureLength, [][]int{{0, 1, 2, 9}, {9, 0, 1, 2}, {1, 9, 0, 2}, {9, 1, 2, 0}}, []int{9, 9, 9, 9}, 0},
		// The first one of several centers.
		{"nothing is reached", impl.MeasureLength, [][]int{{0, none}, {none, 0}}, []int{none, none}, 0},
		{"nothing is reached with a width", impl.MeasureWidth, [][]int{{100000, 0, 0}, {0, 100000, 0}, {0, 0, 100000}}, []int{0, 0, 0}, 0},
		{"two centers at the end", impl.MeasureLength, [][]int{{0, 9, 9}, {5, 0, 5}, {5, 5, 0}}, []int{9, 5, 5}, 1},
		{"two centers that are not neighbours", impl.MeasureWidth, [][]int{{100000, 5, 7}, {4, 100000, 9}, {9, 5, 100000}}, []int{5, 4, 5}, 0},
	}
	for _, c := range cases {
		x := matrixOf(c.m, c.rows...)
		for node, want := range c.worst {
			worst, ok := impl.WorstOf(x, node)
			wantValue(t, fmt.Sprintf("%s: WorstOf of %d", c.what, node), worst, ok, want)
		}
		center, ok := impl.CenterOf(x)
		wantValue(t, c.what+": CenterOf", center, ok, c.center)
	}
}

func TestWorstOfInvalidNodes(t *testing.T) {
	for _, k := range allKinds() {
		for nodes := 1; nodes <= impl.MaxNodes; nodes++ {
			x := k.noEdges(nodes)
			for _, node := range []int{-1, nodes, impl.MaxNodes, math.MinInt, math.MaxInt} {
				worst, ok := impl.WorstOf(x, node)
				wantNoValue(t, fmt.Sprintf("%s: WorstOf of %d of %d nodes", k.name, node, nodes), worst, ok)
			}
		}
	}
}

func TestPairsAtLimits(t *testing.T) {
	last := impl.MaxNodes - 1
	heavy := impl.Edge{From: last, To: 0, Weight: impl.MaxWeight}
	for _, k := range allKinds() {
		heaviest, _ := impl.EdgeMeasure(k.m, impl.MaxWeight)
		for _, g := range []impl.Graph{row(impl.MaxNodes, impl.MaxWeight), greatestGraph()} {
			x := allPairs(t, g, k.m)
			wantPairsLikeScans(t, x, edgeMatrix(t, g, k.m), heavy)
			for _, e := range []impl.Edge{{From: last + 1, To: 0, Weight: 1}, {From: 0, To: last + 1, Weight: 1}, {From: last, To: 0, Weight: impl.MaxWeight + 1}} {
				got, ok := impl.PutPair(x, e)
				wantNoMatrix(t, fmt.Sprintf("%s: PutPair with %v", k.name, e), got, ok)
			}
			worst, ok := impl.WorstOf(x, last+1)
			wantNoValue(t, k.name+": WorstOf past the last node", worst, ok)
		}
		x := allPairs(t, row(impl.MaxNodes, impl.MaxWeight), k.m)
		longest, _ := impl.PathMeasure(k.m, repeatedWeight(impl.MaxWeight, last))
		wantValue(t, k.name+": the longest row", x.Rows[0][last], true, longest)
		closed, ok := impl.PutPair(x, heavy)
		wantMatrix(t, k.name+": the longest ring", closed, ok, allPairs(t, ring(impl.MaxNodes, impl.MaxWeight), k.m))
		wantValue(t, k.name+": the edge that closes it", closed.Rows[last][0], true, heaviest)
		wantNoPairs(t, k.name+": a row too many", k.noEdges(impl.MaxNodes+1))
		for _, g := range []impl.Graph{row(impl.MaxNodes+1, 1), {Nodes: impl.MaxNodes, Edges: firstEdges(impl.MaxNodes, impl.MaxEdges+1)}, row(2, impl.MaxWeight+1)} {
			got, ok := impl.EdgeMatrix(g, k.m)
			wantNoMatrix(t, k.name+": EdgeMatrix past a limit", got, ok)
			got, ok = impl.AllPairs(g, k.m)
			wantNoMatrix(t, k.name+": AllPairs past a limit", got, ok)
		}
		for _, value := range []int{0, k.most} {
			wantPairsLikeScans(t, sameElements(k.m, impl.MaxNodes, value), sameElements(k.m, impl.MaxNodes, k.most-value), heavy)
		}
		for _, value := range []int{-1, k.most + 1} {
			bad := k.noEdges(impl.MaxNodes)
			bad.Rows[last][last] = value
			wantNoPairs(t, fmt.Sprintf("%s: the last element %d", k.name, value), bad)
		}
	}
}

// resultsOf are all matrices that come from a graph, two matrices and an edge.
func resultsOf(g impl.Graph, a impl.Matrix, b impl.Matrix, e impl.Edge) []impl.Matrix {
	edges, _ := impl.EdgeMatrix(g, a.Measure)
	pairs, _ := impl.AllPairs(g, a.Measure)
	closed, _ := impl.CloseMatrix(a)
	product, _ := impl.TimesMatrix(a, b)
	square, _ := impl.TimesMatrix(a, a)
	put, _ := impl.PutPair(a, e)
	return []impl.Matrix{edges, pairs, closed, product, square, put}
}

// withMoreBehind has the same rows, in memory with other numbers behind each of them and other rows behind the last one.
func withMoreBehind(x impl.Matrix) impl.Matrix {
	var rows [][]int
	for _, numbers := range x.Rows {
		rows = append(rows, append(slices.Clone(numbers), 7, 7, 7)[:len(numbers)])
	}
	return impl.Matrix{Measure: x.Measure, Rows: append(rows, []int{8}, []int{8})[:len(rows)]}
}

// allMemory is a copy of what the rows have, also beyond the lengths.
func allMemory(x impl.Matrix) impl.Matrix {
	whole := impl.Matrix{Measure: x.Measure}
	for _, numbers := range x.Rows[:cap(x.Rows)] {
		whole.Rows = append(whole.Rows, slices.Clone(numbers[:cap(numbers)]))
	}
	return whole
}

func TestPairArgumentsAreKept(t *testing.T) {
	random := rand.New(rand.NewSource(85))
	g := graphOf(t, "4 0>1=5 0>2=3 1>3=1 2>1=1 3>0=2")
	e := impl.Edge{From: 3, To: 1, Weight: 1}
	for _, k := range allKinds() {
		a, b := withMoreBehind(k.randomMatrix(random, 4)), withMoreBehind(k.randomMatrix(random, 4))
		beforeA, beforeB := allMemory(a), allMemory(b)
		results, copies := resultsOf(g, a, b, e), resultsOf(g, a, b, e)
		for i, x := range results {
			for node, numbers := range x.Rows {
				// Each row is the only one that has its memory, also that behind it.
				wantNumbers(t, fmt.Sprintf("%s: the row %d of the result %d", k.name, node, i), numbers, true, copies[i].Rows[node]...)
				overwrite(impl.Kept{Parents: numbers})
			}
			clear(x.Rows[:cap(x.Rows)])
		}
		impl.MatrixValid(a)
		impl.WorstOf(a, 2)
		impl.CenterOf(a)
		if !sameMatrix(allMemory(a), beforeA) || !sameMatrix(allMemory(b), beforeB) || impl.FormatGraph(g) != "4 0>1=5 0>2=3 1>3=1 2>1=1 3>0=2" {
			t.Errorf("%s: the arguments became %v, %v and %v", k.name, allMemory(a), allMemory(b), g)
		}
		for i, x := range resultsOf(g, a, b, e) {
			wantMatrix(t, fmt.Sprintf("%s: the result %d behind changes of results", k.name, i), x, true, copies[i])
		}
	}
}

// TestRowsThatShareMemory has a matrix all rows of which are the same slice.
func TestRowsThatShareMemory(t *testing.T) {
	random := rand.New(rand.NewSource(86))
	for _, k := range allKinds() {
		for range 10 {
			numbers := k.randomView(random, 4).Values
			x := matrixOf(k.m, numbers, numbers, numbers, numbers)
			apart := copyOfMatrix(x)
			g, e := randomGraph(random, 4, 6, 9), impl.Edge{From: 2, To: 1, Weight: 3}
			want := resultsOf(g, apart, apart, e)
			for i, got := range resultsOf(g, x, x, e) {
				wantMatrix(t, fmt.Sprintf("%s: the result %d of %v", k.name, i, x), got, true, want[i])
			}
			wantMatrix(t, k.name+": the argument", x, true, apart)
		}
	}
}

// wantPairsByPaths checks each row against all paths and against the right view, and returns the matrix.
func wantPairsByPaths(t *testing.T, k kindOfMeasures, g impl.Graph) impl.Matrix {
	t.Helper()
	x := allPairs(t, g, k.m)
	if !impl.MatrixValid(x) || x.Measure != k.m || len(x.Rows) != g.Nodes {
		t.Fatalf("%s: all pairs of %q = %v", k.name, impl.FormatGraph(g), x)
	}
	for source, numbers := range x.Rows {
		what := fmt.Sprintf("%s: the row %d of all pairs of %q", k.name, source, impl.FormatGraph(g))
		wantNumbers(t, what, numbers, true, k.bestByPaths(t, g, source)...)
		wantView(t, what, impl.View{Measure: k.m, Source: source, Values: numbers}, true, viewOf(t, g, k.m, source))
	}
	return x
}

// wantPutPair checks that putting an edge changes all pairs to those of the graph with the edge, unless there was a better one, with which nothing changes.
func wantPutPair(t *testing.T, k kindOfMeasures, g impl.Graph, x impl.Matrix, e impl.Edge) {
	t.Helper()
	want := x
	changed, ok := impl.PutEdge(g, e)
	if !ok {
		t.Fatalf("%v is not put into %q", e, impl.FormatGraph(g))
	}
	before, there := impl.WeightOf(g, e.From, e.To)
	old, _ := impl.EdgeMeasure(k.m, before)
	now, _ := impl.EdgeMeasure(k.m, e.Weight)
	if !there || !impl.IsBetter(k.m, old, now) {
		want = allPairs(t, changed, k.m)
	}
	got, ok := impl.PutPair(x, e)
	wantMatrix(t, fmt.Sprintf("%s: all pairs of %q with %v", k.name, impl.FormatGraph(g), e), got, ok, want)
}

// TestPromise8 checks the rows of all pairs against all paths, and the columns against the views of the reversed graph.
func TestPromise8(t *testing.T) {
	random := rand.New(rand.NewSource(888))
	for range 40 {
		nodes := 1 + random.Intn(impl.MaxNodes)
		g := randomGraph(random, nodes, random.Intn(min(impl.MaxEdges, 2*nodes+2)+1), []int{1, 3, 30, impl.MaxWeight}[random.Intn(4)])
		reversed, _ := impl.ReverseGraph(g)
		for _, k := range allKinds() {
			x := wantPairsByPaths(t, k, g)
			for target := range nodes {
				for source, value := range viewOf(t, reversed, k.m, target).Values {
					wantValue(t, fmt.Sprintf("%s: from %d to %d in %q", k.name, source, target, impl.FormatGraph(g)), x.Rows[source][target], true, value)
				}
			}
		}
	}
}

// TestPromise8OfEdgesThatArePut builds graphs edge by edge, from one without edges to one with all edges that it may have.
func TestPromise8OfEdgesThatArePut(t *testing.T) {
	random := rand.New(rand.NewSource(889))
	for nodes := 1; nodes <= impl.MaxNodes; nodes++ {
		for _, k := range allKinds() {
			g, x := impl.Graph{Nodes: nodes}, k.noEdges(nodes)
			all := firstEdges(nodes, nodes*nodes)
			for _, place := range random.Perm(len(all))[:min(len(all), impl.MaxEdges)] {
				e := impl.Edge{From: all[place].From, To: all[place].To, Weight: 1 + random.Intn(50)}
				wantPutPair(t, k, g, x, e)
				g, _ = impl.PutEdge(g, e)
				x, _ = impl.PutPair(x, e)
				for _, weight := range []int{1, e.Weight, e.Weight + 1, impl.MaxWeight} {
					wantPutPair(t, k, g, x, impl.Edge{From: e.From, To: e.To, Weight: weight})
				}
			}
			for source, numbers := range x.Rows {
				wantView(t, fmt.Sprintf("%s: the row %d of %q", k.name, source, impl.FormatGraph(g)), impl.View{Measure: k.m, Source: source, Values: numbers}, true, viewOf(t, g, k.m, source))
			}
		}
	}
}

// TestPromise8InSmallGraphs tries all graphs of three nodes with weights up to 2, and all edges that are put into them.
func TestPromise8InSmallGraphs(t *testing.T) {
	all := firstEdges(3, 6)
	for _, g := range allGraphs(3, all, 2) {
		for _, k := range allKinds() {
			x := wantPairsByPaths(t, k, g)
			for _, e := range all {
				for weight := 1; weight <= 3; weight++ {
					wantPutPair(t, k, g, x, impl.Edge{From: e.From, To: e.To, Weight: weight})
				}
			}
		}
	}
}
