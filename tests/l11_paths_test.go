package tests

import (
	"fmt"
	"math"
	"math/rand"
	"slices"
	"testing"

	"loop.example/graphviews/impl"
)

const maxPaths = 400

func pathOf(value int, nodes ...int) impl.Path { return impl.Path{Nodes: nodes, Value: value} }

// paths is a list of paths, written like the paths that are wanted.
func paths(list ...impl.Path) []impl.Path { return list }

func samePath(a impl.Path, b impl.Path) bool {
	return a.Value == b.Value && slices.Equal(a.Nodes, b.Nodes)
}

func wantPath(t *testing.T, what string, got impl.Path, ok bool, want impl.Path) {
	t.Helper()
	if !ok || !samePath(got, want) {
		t.Errorf("%s = %v, %v, want %v, true", what, got, ok, want)
	}
}

func wantNoPath(t *testing.T, what string, got impl.Path, ok bool) {
	t.Helper()
	if ok || got.Value != 0 || len(got.Nodes) != 0 {
		t.Errorf("%s = %v, %v, want the zero value, false", what, got, ok)
	}
}

func wantPaths(t *testing.T, what string, got []impl.Path, ok bool, want ...impl.Path) {
	t.Helper()
	if !ok || !slices.EqualFunc(got, want, samePath) {
		t.Errorf("%s = %v, %v, want %v, true", what, got, ok, want)
	}
}

func wantNoPaths(t *testing.T, what string, got []impl.Path, ok bool) {
	t.Helper()
	if ok || len(got) != 0 {
		t.Errorf("%s = %v, %v, want no paths, false", what, got, ok)
	}
}

// simplePaths are the paths of SimplePaths, which has to find them.
func simplePaths(t *testing.T, g impl.Graph, m int, source int, target int) []impl.Path {
	t.Helper()
	found, ok := impl.SimplePaths(g, m, source, target)
	if !ok {
		t.Fatalf("SimplePaths of %q from %d to %d for the kind %d is false", impl.FormatGraph(g), source, target, m)
	}
	return found
}

// simpleRows are all rows of different nodes that edges lead along, from source to target, sorted.
func simpleRows(g impl.Graph, source int, target int) [][]int {
	var found [][]int
	for rows := [][]int{{source}}; len(rows) > 0; {
		var longer [][]int
		for _, row := range rows {
			if row[len(row)-1] == target {
				found = append(found, row)
			}
			for _, next := range impl.NextNodes(g, row[len(row)-1]) {
				if !slices.Contains(row, next) {
					longer = append(longer, append(slices.Clone(row), next))
				}
			}
		}
		rows = longer
	}
	slices.SortFunc(found, slices.Compare)
	return found
}

// pathsByScans does what the document says of SimplePaths with valid arguments and no more paths than it allows.
func pathsByScans(t *testing.T, g impl.Graph, m int, source int, target int) []impl.Path {
	t.Helper()
	var found []impl.Path
	for _, row := range simpleRows(g, source, target) {
		weights, ok := impl.PathEdges(g, row)
		value, fine := impl.PathMeasure(m, weights)
		if !ok || !fine {
			t.Fatalf("%v is no path of %q", row, impl.FormatGraph(g))
		}
		found = append(found, pathOf(value, row...))
	}
	return found
}

// inFrontByScans does what the document says of paths with valid values.
func inFrontByScans(m int, a impl.Path, b impl.Path) bool {
	if a.Value != b.Value {
		return impl.IsBetter(m, a.Value, b.Value)
	}
	if len(a.Nodes) != len(b.Nodes) {
		return len(a.Nodes) < len(b.Nodes)
	}
	for i, node := range a.Nodes {
		if node != b.Nodes[i] {
			return node < b.Nodes[i]
		}
	}
	return false
}

// orderedByScans puts each path behind all that are in front of it.
func orderedByScans(m int, found []impl.Path) []impl.Path {
	ordered := make([]impl.Path, len(found))
	for _, p := range found {
		place := 0
		for _, other := range found {
			if inFrontByScans(m, other, p) {
				place++
			}
		}
		ordered[place] = p
	}
	return ordered
}

// detourByScans does what the document says of DetourOf with one of the paths that are in order.
func detourByScans(ordered []impl.Path, p impl.Path, shared int) (impl.Path, bool) {
	for _, other := range ordered {
		begins := len(other.Nodes) > shared && slices.Equal(other.Nodes[:shared+1], p.Nodes[:shared+1])
		goesOn := shared+1 < len(p.Nodes) && len(other.Nodes) > shared+1 && other.Nodes[shared+1] == p.Nodes[shared+1]
		if begins && !goesOn && !samePath(other, p) {
			return other, true
		}
	}
	return impl.Path{}, false
}

// TestPathsExample has the graph and the paths of the document.
func TestPathsExample(t *testing.T) {
	g := graphOf(t, "3 0>1=1 0>2=3 1>2=1")
	long, short := pathOf(2, 0, 1, 2), pathOf(3, 0, 2)
	got, ok := impl.BestPaths(g, impl.MeasureLength, 0, 2, 400)
	wantPaths(t, "the paths from 0 to 2", got, ok, long, short)
	next, ok := impl.NextPath(g, impl.MeasureLength, long)
	wantPath(t, "the path behind 0, 1, 2", next, ok, short)
	next, ok = impl.NextPath(g, impl.MeasureLength, short)
	wantNoPath(t, "the path behind 0, 2", next, ok)
}

func TestSimplePaths(t *testing.T) {
	cases := []struct {
		what   string
		text   string
		m      int
		source int
		target int
		want   []impl.Path
	}{
		{"one edge", "2 0>1=5", impl.MeasureLength, 0, 1, paths(pathOf(5, 0, 1))},
		{"an edge the other way round", "2 0>1=5", impl.MeasureLength, 1, 0, nil},
		{"no edges", "2", impl.MeasureLength, 0, 1, nil},
		{"no path between two parts", "4 0>1=1 1>0=1 2>3=1 3>2=1", impl.MeasureReach, 0, 3, nil},
		{"a target that no edge leads to", "3 0>1=1 1>0=1 2>0=1 2>1=1", impl.MeasureWidth, 0, 2, nil},
		// A path without edges is the only one from a node to itself.
		{"one node", "1", impl.MeasureLength, 0, 0, paths(pathOf(0, 0))},
		{"a node to itself", "3 0>1=1 1>2=1 2>0=1", impl.MeasureLength, 1, 1, paths(pathOf(0, 1))},
		{"a width to itself", "3 0>1=1 1>2=1 2>0=1", impl.MeasureWidth, 2, 2, paths(pathOf(100000, 2))},
		{"a peak to itself", "2 0>1=1 1>0=1", impl.MeasurePeak, 0, 0, paths(pathOf(0, 0))},
		{"a reach to itself", "2 0>1=1 1>0=1", impl.MeasureReach, 1, 1, paths(pathOf(1, 1))},
		{"hops to itself", "2 0>1=1 1>0=1", impl.MeasureHops, 0, 0, paths(pathOf(0, 0))},
		// The order is that of nodes, whatever the values are.
		{"a short path behind a long one", "3 0>1=1 0>2=3 1>2=1", impl.MeasureLength, 0, 2, paths(pathOf(2, 0, 1, 2), pathOf(3, 0, 2))},
		{"a long path behind a short one", "3 0>1=9 0>2=1 2>1=1", impl.MeasureLength, 0, 1, paths(pathOf(9, 0, 1), pathOf(2, 0, 2, 1))},
		{"the value is no key", "4 0>1=9 0>2=1 1>3=9 2>3=1", impl.MeasureLength, 0, 3, paths(pathOf(18, 0, 1, 3), pathOf(2, 0, 2, 3))},
		{"the number of nodes is no key", "4 0>1=1 0>3=1 1>2=1 2>3=1", impl.MeasureHops, 0, 3, paths(pathOf(3, 0, 1, 2, 3), pathOf(1, 0, 3))},
		{"from the greatest node to the least one", "4 1>0=1 2>0=2 2>1=1 3>0=9 3>1=3 3>2=1", impl.MeasureLength, 3, 0,
			paths(pathOf(9, 3, 0), pathOf(4, 3, 1, 0), pathOf(3, 3, 2, 0), pathOf(3, 3, 2, 1, 0))},
		// A path does not go on behind its target, nor back to its source.
		{"edges behind the target", "4 0>1=1 1>2=1 2>3=1 3>1=1", impl.MeasureLength, 0, 2, paths(pathOf(2, 0, 1, 2))},
		{"edges back to the source", "3 0>1=1 1>0=1 1>2=1 2>0=1", impl.MeasureLength, 0, 2, paths(pathOf(2, 0, 1, 2))},
		{"a cycle beside the path", "4 0>1=1 1>2=1 1>3=1 2>1=1", impl.MeasureLength, 0, 3, paths(pathOf(2, 0, 1, 3))},
		{"two directions on a ring", "4 0>1=1 0>3=4 1>0=1 1>2=2 2>1=2 2>3=3 3>0=4 3>2=3", impl.MeasureLength, 0, 2, paths(pathOf(3, 0, 1, 2), pathOf(7, 0, 3, 2))},
		{"two nodes in both orders", "4 0>1=1 0>2=2 1>2=3 1>3=4 2>1=5 2>3=6", impl.MeasureLength, 0, 3,
			paths(pathOf(10, 0, 1, 2, 3), pathOf(5, 0, 1, 3), pathOf(11, 0, 2, 1, 3), pathOf(8, 0, 2, 3))},
		// Two paths with the same value.
		{"equal lengths", "4 0>1=1 0>2=1 1>3=1 2>3=1", impl.MeasureLength, 0, 3, paths(pathOf(2, 0, 1, 3), pathOf(2, 0, 2, 3))},
		{"widths", "4 0>1=4 0>2=2 1>2=9 1>3=3 2>3=5", impl.MeasureWidth, 0, 3, paths(pathOf(4, 0, 1, 2, 3), pathOf(3, 0, 1, 3), pathOf(2, 0, 2, 3))},
		{"peaks", "4 0>1=4 0>2=2 1>2=9 1>3=3 2>3=5", impl.MeasurePeak, 0, 3, paths(pathOf(9, 0, 1, 2, 3), pathOf(4, 0, 1, 3), pathOf(5, 0, 2, 3))},
		{"reaches", "4 0>1=4 0>2=2 1>2=9 1>3=3 2>3=5", impl.MeasureReach, 0, 3, paths(pathOf(1, 0, 1, 2, 3), pathOf(1, 0, 1, 3), pathOf(1, 0, 2, 3))},
		{"hops", "4 0>1=4 0>2=2 1>2=9 1>3=3 2>3=5", impl.MeasureHops, 0, 3, paths(pathOf(3, 0, 1, 2, 3), pathOf(2, 0, 1, 3), pathOf(2, 0, 2, 3))},
	}
	for _, c := range cases {
		got, ok := impl.SimplePaths(graphOf(t, c.text), c.m, c.source, c.target)
		wantPaths(t, c.what, got, ok, c.want...)
	}
}

func TestPathBefore(t *testing.T) {
	cases := []struct {
		what string
		m    int
		a    impl.Path
		b    impl.Path
		want bool
	}{
		{"a lesser length", impl.MeasureLength, pathOf(4, 5, 6, 7), pathOf(5, 0, 1), true},
		{"a greater length", impl.MeasureLength, pathOf(5, 0, 1), pathOf(4, 5, 6, 7), false},
		{"a greater width", impl.MeasureWidth, pathOf(5, 5, 6, 7), pathOf(4, 0, 1), true},
		{"a lesser width", impl.MeasureWidth, pathOf(4, 0, 1), pathOf(5, 5, 6, 7), false},
		{"a lesser peak", impl.MeasurePeak, pathOf(4, 5, 6, 7), pathOf(5, 0, 1), true},
		{"a greater reach", impl.MeasureReach, pathOf(1, 5, 6, 7), pathOf(0, 0, 1), true},
		{"a lesser reach", impl.MeasureReach, pathOf(0, 0, 1), pathOf(1, 5, 6, 7), false},
		{"fewer hops", impl.MeasureHops, pathOf(2, 5, 6, 7), pathOf(3, 0, 1), true},
		// For equal values, the numbers of nodes count, and then the nodes.
		{"fewer nodes", impl.MeasureLength, pathOf(5, 8, 9), pathOf(5, 0, 1, 2), true},
		{"more nodes", impl.MeasureLength, pathOf(5, 0, 1, 2), pathOf(5, 8, 9), false},
		{"no nodes", impl.MeasureWidth, pathOf(5), pathOf(5, 0), true},
		{"the beginning of the other one", impl.MeasureWidth, pathOf(5, 0, 1), pathOf(5, 0, 1, 2), true},
		{"the other one and more", impl.MeasureWidth, pathOf(5, 0, 1, 2), pathOf(5, 0, 1), false},
		{"the first node is less", impl.MeasureLength, pathOf(5, 0, 9, 9), pathOf(5, 1, 2, 3), true},
		{"the first node is greater", impl.MeasureLength, pathOf(5, 1, 2, 3), pathOf(5, 0, 9, 9), false},
		{"the second node is less", impl.MeasureWidth, pathOf(5, 3, 1, 9), pathOf(5, 3, 2, 0), true},
		{"the second node is greater", impl.MeasureWidth, pathOf(5, 3, 2, 0), pathOf(5, 3, 1, 9), false},
		{"the last node is less", impl.MeasureReach, pathOf(1, 3, 2, 0), pathOf(1, 3, 2, 1), true},
		{"the last node is greater", impl.MeasureReach, pathOf(1, 3, 2, 1), pathOf(1, 3, 2, 0), false},
		{"the same path", impl.MeasureLength, pathOf(5, 0, 1, 2), pathOf(5, 0, 1, 2), false},
		{"no nodes twice", impl.MeasureLength, pathOf(5), pathOf(5), false},
		// All paths are accepted, also those of no graph.
		{"no numbers of nodes", impl.MeasureLength, pathOf(5, -7, 3), pathOf(5, 99, math.MinInt), true},
		{"the least and the greatest number", impl.MeasureLength, pathOf(5, math.MaxInt), pathOf(5, math.MinInt), false},
		{"the greatest and the least number", impl.MeasureLength, pathOf(5, math.MinInt), pathOf(5, math.MaxInt), true},
		{"a node twice", impl.MeasurePeak, pathOf(5, 1, 1, 1), pathOf(5, 1, 1, 2), true},
	}
	for _, c := range cases {
		if got := impl.PathBefore(c.m, c.a, c.b); got != c.want {
			t.Errorf("%s: PathBefore(%d, %v, %v) = %v", c.what, c.m, c.a, c.b, got)
		}
	}
}

func TestPathsWithInvalidValues(t *testing.T) {
	for _, k := range allKinds() {
		best, worst := pathOf(k.empty, 0), pathOf(k.none, 0, 1)
		if !impl.PathBefore(k.m, best, worst) || impl.PathBefore(k.m, worst, best) {
			t.Errorf("%s: %v is not in front of %v only", k.name, best, worst)
		}
		for _, bad := range k.invalidValues() {
			p := pathOf(bad, 0)
			for _, q := range []impl.Path{best, worst, p, pathOf(bad, 0, 1)} {
				if impl.PathBefore(k.m, p, q) || impl.PathBefore(k.m, q, p) {
					t.Errorf("%s: %v or %v is in front of the other one", k.name, p, q)
				}
			}
		}
	}
	for _, m := range invalidKinds() {
		for _, a := range []impl.Path{pathOf(0, 0), pathOf(1, 0, 1)} {
			for _, b := range []impl.Path{pathOf(0, 0), pathOf(1, 0, 1)} {
				if impl.PathBefore(m, a, b) {
					t.Errorf("%v is in front of %v for the kind %d", a, b, m)
				}
			}
		}
	}
	// A value of another kind.
	if impl.PathBefore(impl.MeasureReach, pathOf(5, 0), pathOf(0, 0)) || impl.PathBefore(impl.MeasureReach, pathOf(1, 0), pathOf(2, 0)) {
		t.Error("a reach that is no measure is accepted")
	}
}

func TestPathSame(t *testing.T) {
	same := [][2]impl.Path{
		{{}, {}}, {{}, pathOf(0)}, {{Nodes: []int{}}, {}}, {pathOf(5, 0, 1, 2), pathOf(5, 0, 1, 2)}, {pathOf(-1, -5, 99), pathOf(-1, -5, 99)},
		{pathOf(math.MaxInt, 0, 0), pathOf(math.MaxInt, 0, 0)},
	}
	for _, c := range same {
		if !impl.PathSame(c[0], c[1]) || !impl.PathSame(c[1], c[0]) {
			t.Errorf("%v and %v are not the same", c[0], c[1])
		}
	}
	other := [][2]impl.Path{
		{{}, pathOf(1)}, {{}, pathOf(0, 0)}, {pathOf(5, 0, 1), pathOf(6, 0, 1)}, {pathOf(5, 0, 1), pathOf(5, 0, 2)}, {pathOf(5, 0, 1), pathOf(5, 1, 1)},
		{pathOf(5, 0, 1, 2), pathOf(5, 0, 3, 2)}, {pathOf(5, 0, 1), pathOf(5, 0, 1, 2)}, {pathOf(5, 0, 1), pathOf(5, 1, 0)}, {pathOf(5, 0), pathOf(-5, 0)},
	}
	for _, c := range other {
		if impl.PathSame(c[0], c[1]) || impl.PathSame(c[1], c[0]) {
			t.Errorf("%v and %v are the same", c[0], c[1])
		}
	}
}

// orderOfPaths is a graph with all its paths between two nodes, in order.
type orderOfPaths struct {
	what   string
	text   string
	m      int
	source int
	target int
	want   []impl.Path
}

func ordersOfPaths() []orderOfPaths {
	two := "4 0>1=4 0>2=2 1>2=9 1>3=3 2>3=5"
	all := "4 0>1=1 0>2=1 0>3=1 1>2=1 1>3=1 2>1=1 2>3=1"
	return []orderOfPaths{
		{"no path", "3 0>1=1 2>1=1", impl.MeasureLength, 0, 2, nil},
		{"a path without edges", "3 0>1=1 1>2=1 2>0=1", impl.MeasureWidth, 1, 1, paths(pathOf(100000, 1))},
		{"lengths", two, impl.MeasureLength, 0, 3, paths(pathOf(7, 0, 1, 3), pathOf(7, 0, 2, 3), pathOf(18, 0, 1, 2, 3))},
		{"widths", two, impl.MeasureWidth, 0, 3, paths(pathOf(4, 0, 1, 2, 3), pathOf(3, 0, 1, 3), pathOf(2, 0, 2, 3))},
		{"peaks", two, impl.MeasurePeak, 0, 3, paths(pathOf(4, 0, 1, 3), pathOf(5, 0, 2, 3), pathOf(9, 0, 1, 2, 3))},
		{"reaches", two, impl.MeasureReach, 0, 3, paths(pathOf(1, 0, 1, 3), pathOf(1, 0, 2, 3), pathOf(1, 0, 1, 2, 3))},
		{"hops", two, impl.MeasureHops, 0, 3, paths(pathOf(2, 0, 1, 3), pathOf(2, 0, 2, 3), pathOf(3, 0, 1, 2, 3))},
		// Paths with the same value: fewer nodes first, and then the lesser node where they differ.
		{"equal widths", all, impl.MeasureWidth, 0, 3, paths(pathOf(1, 0, 3), pathOf(1, 0, 1, 3), pathOf(1, 0, 2, 3), pathOf(1, 0, 1, 2, 3), pathOf(1, 0, 2, 1, 3))},
		{"equal reaches", all, impl.MeasureReach, 0, 3, paths(pathOf(1, 0, 3), pathOf(1, 0, 1, 3), pathOf(1, 0, 2, 3), pathOf(1, 0, 1, 2, 3), pathOf(1, 0, 2, 1, 3))},
		{"equal lengths of different numbers of nodes", "4 0>1=1 0>2=2 0>3=3 1>2=1 2>3=1", impl.MeasureLength, 0, 3,
			paths(pathOf(3, 0, 3), pathOf(3, 0, 2, 3), pathOf(3, 0, 1, 2, 3))},
		{"a path of more nodes that is better", "4 0>1=1 0>2=2 0>3=4 1>2=1 2>3=1", impl.MeasureLength, 0, 3,
			paths(pathOf(3, 0, 2, 3), pathOf(3, 0, 1, 2, 3), pathOf(4, 0, 3))},
		{"the last difference", "5 0>1=1 1>2=2 1>3=2 2>4=2 3>4=2", impl.MeasureLength, 0, 4, paths(pathOf(5, 0, 1, 2, 4), pathOf(5, 0, 1, 3, 4))},
	}
}

func TestBestPaths(t *testing.T) {
	for _, c := range ordersOfPaths() {
		g := graphOf(t, c.text)
		for _, count := range []int{0, 1, 2, len(c.want) - 1, len(c.want), len(c.want) + 1, maxPaths - 1, maxPaths} {
			if count < 0 {
				continue
			}
			got, ok := impl.BestPaths(g, c.m, c.source, c.target, count)
			wantPaths(t, fmt.Sprintf("%s: the best %d", c.what, count), got, ok, c.want[:min(count, len(c.want))]...)
		}
		for _, count := range []int{-1, maxPaths + 1, math.MinInt, math.MaxInt} {
			got, ok := impl.BestPaths(g, c.m, c.source, c.target, count)
			wantNoPaths(t, fmt.Sprintf("%s: the best %d", c.what, count), got, ok)
		}
	}
}

func TestNextPathAndPathRank(t *testing.T) {
	for _, c := range ordersOfPaths() {
		g := graphOf(t, c.text)
		for rank, p := range c.want {
			what := fmt.Sprintf("%s: %v", c.what, p)
			got, ok := impl.PathRank(g, c.m, p)
			wantValue(t, what+": PathRank", got, ok, rank)
			next, ok := impl.NextPath(g, c.m, p)
			if rank+1 < len(c.want) {
				wantPath(t, what+": NextPath", next, ok, c.want[rank+1])
			} else {
				wantNoPath(t, what+": NextPath", next, ok)
			}
		}
	}
}

func TestDetourOf(t *testing.T) {
	g := graphOf(t, "5 0>1=1 0>2=3 1>2=1 1>3=6 1>4=9 2>3=2 2>4=7 3>4=1")
	all := paths(pathOf(5, 0, 1, 2, 3, 4), pathOf(6, 0, 2, 3, 4), pathOf(8, 0, 1, 3, 4), pathOf(9, 0, 1, 2, 4), pathOf(10, 0, 1, 4), pathOf(10, 0, 2, 4))
	got, ok := impl.BestPaths(g, impl.MeasureLength, 0, 4, maxPaths)
	wantPaths(t, "the paths from 0 to 4", got, ok, all...)
	cases := []struct {
		p       impl.Path
		detours []int
	}{
		// The numbers of the detours by the number of edges that are shared, and -1 if there is none.
		{all[0], []int{1, 2, 3, -1, -1}},
		{all[1], []int{0, 5, -1, -1}},
		{all[2], []int{1, 0, -1, -1}},
		{all[3], []int{1, 2, 0, -1}},
		{all[4], []int{1, 0, -1}},
		{all[5], []int{0, 1, -1}},
	}
	for _, c := range cases {
		for shared, place := range c.detours {
			what := fmt.Sprintf("the detour of %v with %d edges shared", c.p, shared)
			detour, ok := impl.DetourOf(g, impl.MeasureLength, c.p, shared)
			if place >= 0 {
				wantPath(t, what, detour, ok, all[place])
			} else {
				wantNoPath(t, what, detour, ok)
			}
		}
		for _, shared := range []int{-1, len(c.p.Nodes), len(c.p.Nodes) + 1, math.MinInt, math.MaxInt, math.MaxInt - 1} {
			detour, ok := impl.DetourOf(g, impl.MeasureLength, c.p, shared)
			wantNoPath(t, fmt.Sprintf("the detour of %v with %d edges shared", c.p, shared), detour, ok)
		}
	}
}

func TestDetoursOfPathsAlone(t *testing.T) {
	for _, c := range []struct {
		text string
		m    int
		p    impl.Path
	}{
		{"1", impl.MeasureLength, pathOf(0, 0)},
		{"3 0>1=1 1>2=1 2>0=1", impl.MeasureWidth, pathOf(100000, 1)},
		{"2 0>1=5 1>0=5", impl.MeasureReach, pathOf(1, 0, 1)},
		{"4 0>1=1 1>2=1 1>3=1 2>3=1", impl.MeasureHops, pathOf(2, 0, 1, 2)},
	} {
		for shared := -1; shared <= len(c.p.Nodes)+1; shared++ {
			detour, ok := impl.DetourOf(graphOf(t, c.text), c.m, c.p, shared)
			wantNoPath(t, fmt.Sprintf("the detour of %v in %q with %d edges shared", c.p, c.text, shared), detour, ok)
		}
		next, ok := impl.NextPath(graphOf(t, c.text), c.m, c.p)
		wantNoPath(t, fmt.Sprintf("the path behind %v in %q", c.p, c.text), next, ok)
		rank, ok := impl.PathRank(graphOf(t, c.text), c.m, c.p)
		wantValue(t, fmt.Sprintf("the rank of %v in %q", c.p, c.text), rank, ok, 0)
	}
}

// wantNothingOfPath checks the functions that have a path.
func wantNothingOfPath(t *testing.T, what string, g impl.Graph, m int, p impl.Path) {
	t.Helper()
	next, ok := impl.NextPath(g, m, p)
	wantNoPath(t, what+": NextPath", next, ok)
	rank, ok := impl.PathRank(g, m, p)
	wantNoValue(t, what+": PathRank", rank, ok)
	for _, shared := range []int{0, 1, 2, -1, len(p.Nodes) - 2, len(p.Nodes) - 1, len(p.Nodes)} {
		detour, ok := impl.DetourOf(g, m, p, shared)
		wantNoPath(t, what+": DetourOf", detour, ok)
	}
}

// wantNothingBetween checks the functions that have a source and a target, and those of the edge between them.
func wantNothingBetween(t *testing.T, what string, g impl.Graph, m int, source int, target int) {
	t.Helper()
	got, ok := impl.SimplePaths(g, m, source, target)
	wantNoPaths(t, what+": SimplePaths", got, ok)
	for _, count := range []int{0, 1, maxPaths, -1, maxPaths + 1} {
		got, ok := impl.BestPaths(g, m, source, target, count)
		wantNoPaths(t, what+": BestPaths", got, ok)
	}
	for _, value := range []int{0, 1, impl.MaxMeasure} {
		wantNothingOfPath(t, what, g, m, pathOf(value, source, target))
	}
}

func TestPathsOfInvalidArguments(t *testing.T) {
	checkInvalidStarts(t, func(t *testing.T, what string, g impl.Graph, m int, source int) {
		t.Helper()
		for _, target := range []int{0, 1, 2, source} {
			wantNothingBetween(t, what, g, m, source, target)
		}
		for _, value := range []int{0, 1, impl.MaxMeasure} {
			wantNothingOfPath(t, what, g, m, pathOf(value, source))
		}
	})
	for _, k := range allKinds() {
		for _, text := range []string{"1", "3", "3 0>1=5 1>2=7", "12 0>1=5"} {
			g := graphOf(t, text)
			for _, bad := range []int{-1, g.Nodes, 12, 13, math.MinInt, math.MaxInt} {
				what := fmt.Sprintf("%s: the end %d in %q", k.name, bad, text)
				got, ok := impl.SimplePaths(g, k.m, 0, bad)
				wantNoPaths(t, what, got, ok)
				got, ok = impl.BestPaths(g, k.m, 0, bad, 1)
				wantNoPaths(t, what, got, ok)
				wantNothingOfPath(t, what, g, k.m, pathOf(k.edge40, 0, bad))
				wantNothingOfPath(t, what, g, k.m, pathOf(k.edge40, bad, 0))
				wantNothingOfPath(t, what, g, k.m, pathOf(k.empty, bad))
			}
		}
	}
}

func TestPathsThatAreNone(t *testing.T) {
	g := graphOf(t, "4 0>1=40 1>0=40 1>2=40 2>1=40 2>3=40")
	for _, k := range allKinds() {
		twice := extended(t, k.m, k.edge40, k.edge40)
		right := pathOf(twice, 0, 1, 2)
		if rank, ok := impl.PathRank(g, k.m, right); !ok || rank != 0 {
			t.Errorf("%s: the rank of %v = %d, %v", k.name, right, rank, ok)
		}
		cases := map[string]impl.Path{
			"the zero value":            {},
			"no nodes":                  pathOf(k.empty),
			"no edge":                   pathOf(k.edge40, 0, 2),
			"an edge the other way":     pathOf(k.edge40, 3, 2),
			"no edge in the middle":     pathOf(twice, 0, 2, 3),
			"a node twice":              pathOf(extended(t, k.m, twice, twice), 0, 1, 2, 1, 2),
			"there and back":            pathOf(twice, 0, 1, 0),
			"there and back, and empty": pathOf(k.empty, 0, 1, 0),
			"the same node again":       pathOf(k.edge40, 1, 1),
			"no node in the middle":     pathOf(twice, 0, 4, 2),
			"too great a node":          pathOf(twice, 0, math.MaxInt, 2),
			"a negative node":           pathOf(twice, 0, -1, 2),
			"many nodes":                pathOf(twice, slices.Repeat([]int{0, 1}, 500)...),
			"another value":             pathOf(twice-1, 0, 1, 2),
			"one more":                  pathOf(twice+1, 0, 1, 2),
			"no path as value":          pathOf(k.none, 0, 1, 2),
			"a negative value":          pathOf(-twice, 0, 1, 2),
			"the greatest value":        pathOf(math.MaxInt, 0, 1, 2),
			"no edges, but no path":     pathOf(k.none, 1),
		}
		for name, p := range cases {
			wantNothingOfPath(t, k.name+": "+name, g, k.m, p)
		}
	}
	// The value is that of another kind.
	wantNothingOfPath(t, "hops for a length", g, impl.MeasureLength, pathOf(2, 0, 1, 2))
	wantNothingOfPath(t, "a length for a width", g, impl.MeasureWidth, pathOf(80, 0, 1, 2))
}

// wantPathsLikeScans compares all functions with transcriptions of the document, for graphs that do not have too many paths.
func wantPathsLikeScans(t *testing.T, g impl.Graph, m int, source int, target int) {
	t.Helper()
	what := fmt.Sprintf("the kind %d, from %d to %d in %q", m, source, target, impl.FormatGraph(g))
	found := pathsByScans(t, g, m, source, target)
	got, ok := impl.SimplePaths(g, m, source, target)
	wantPaths(t, what+": SimplePaths", got, ok, found...)
	ordered := orderedByScans(m, found)
	for _, count := range []int{0, 1, 3, len(ordered) - 1, len(ordered), maxPaths} {
		if count >= 0 && count <= maxPaths {
			best, ok := impl.BestPaths(g, m, source, target, count)
			wantPaths(t, fmt.Sprintf("%s: the best %d", what, count), best, ok, ordered[:min(count, len(ordered))]...)
		}
	}
	for place := 0; place < len(ordered); place += 1 + len(ordered)/12 {
		wantPathLikeScans(t, what, g, m, ordered, place)
	}
	if len(ordered) > 0 {
		wantPathLikeScans(t, what, g, m, ordered, len(ordered)-1)
	}
}

func wantPathLikeScans(t *testing.T, what string, g impl.Graph, m int, ordered []impl.Path, place int) {
	t.Helper()
	p := ordered[place]
	what = fmt.Sprintf("%s: %v", what, p)
	rank, ok := impl.PathRank(g, m, p)
	wantValue(t, what+": PathRank", rank, ok, place)
	next, ok := impl.NextPath(g, m, p)
	if place+1 < len(ordered) {
		wantPath(t, what+": NextPath", next, ok, ordered[place+1])
	} else {
		wantNoPath(t, what+": NextPath", next, ok)
	}
	for shared := range p.Nodes {
		detour, ok := impl.DetourOf(g, m, p, shared)
		if want, found := detourByScans(ordered, p, shared); found {
			wantPath(t, fmt.Sprintf("%s: DetourOf %d", what, shared), detour, ok, want)
		} else {
			wantNoPath(t, fmt.Sprintf("%s: DetourOf %d", what, shared), detour, ok)
		}
	}
	for _, shared := range []int{-1, len(p.Nodes), len(p.Nodes) + 1} {
		detour, ok := impl.DetourOf(g, m, p, shared)
		wantNoPath(t, fmt.Sprintf("%s: DetourOf %d", what, shared), detour, ok)
	}
}

func TestPathsLikeScans(t *testing.T) {
	random := rand.New(rand.NewSource(111))
	compared := 0
	for compared < 40 {
		g := randomGraph(random, 1+random.Intn(impl.MaxNodes), random.Intn(impl.MaxEdges+1), []int{1, 3, impl.MaxWeight}[random.Intn(3)])
		source, target := random.Intn(g.Nodes), random.Intn(g.Nodes)
		if len(simpleRows(g, source, target)) > maxPaths {
			continue
		}
		compared++
		for _, k := range allKinds() {
			wantPathsLikeScans(t, g, k.m, source, target)
		}
	}
}

// TestPathBeforeLikeScans compares the order with the document for lists of numbers, which are hardly ever paths of a graph.
func TestPathBeforeLikeScans(t *testing.T) {
	random := rand.New(rand.NewSource(112))
	for range 20000 {
		k := allKinds()[random.Intn(5)]
		values := append(k.someValues(), k.invalidValues()...)
		var ends [2]impl.Path
		for i := range ends {
			ends[i].Value = values[random.Intn(len(values))]
			for range random.Intn(4) {
				ends[i].Nodes = append(ends[i].Nodes, random.Intn(3)-1)
			}
		}
		if random.Intn(2) == 0 {
			ends[1].Value = ends[0].Value
		}
		want := impl.ValueValid(k.m, ends[0].Value) && impl.ValueValid(k.m, ends[1].Value) && inFrontByScans(k.m, ends[0], ends[1])
		if got := impl.PathBefore(k.m, ends[0], ends[1]); got != want {
			t.Fatalf("%s: PathBefore of %v and %v = %v", k.name, ends[0], ends[1], got)
		}
		if got := impl.PathSame(ends[0], ends[1]); got != samePath(ends[0], ends[1]) {
			t.Fatalf("PathSame of %v and %v = %v", ends[0], ends[1], got)
		}
	}
}

// graphOf400Paths has 5 paths from 0 to 3, 5 from 3 to 6, and 16 from 6 to 10. Its node 11 has no edges.
func graphOf400Paths(t *testing.T) impl.Graph {
	t.Helper()
	return graphOf(t, "12 0>1=1 0>2=1 0>3=4 1>2=1 1>3=2 2>1=1 2>3=3 3>4=5 3>5=5 3>6=5 4>5=5 4>6=5 5>4=5 5>6=5"+
		" 6>7=1 6>8=2 6>9=3 6>10=999 7>8=1 7>9=2 7>10=3 8>7=4 8>9=1 8>10=2 9>7=6 9>8=5 9>10=1")
}

func putInto(t *testing.T, g impl.Graph, from int, to int, weight int) impl.Graph {
	t.Helper()
	changed, ok := impl.PutEdge(g, impl.Edge{From: from, To: to, Weight: weight})
	if !ok {
		t.Fatalf("the edge from %d to %d is not put into %q", from, to, impl.FormatGraph(g))
	}
	return changed
}

// wantTooManyPaths has two graphs of which the second one has one path more than are allowed, and another one the first.
func wantTooManyPaths(t *testing.T, what string, most impl.Graph, more impl.Graph, m int, source int, target int) {
	t.Helper()
	found := simplePaths(t, most, m, source, target)
	if count := len(simpleRows(more, source, target)); len(found) != maxPaths || count != maxPaths+1 {
		t.Fatalf("%s: there are %d paths, and %d", what, len(found), count)
	}
	wantPathsLikeScans(t, most, m, source, target)
	wantNothingBetween(t, what, more, m, source, target)
	for _, p := range found[:10] {
		wantNothingOfPath(t, what, more, m, p)
	}
}

func TestLimitOfPaths(t *testing.T) {
	g := graphOf400Paths(t)
	direct, around := putInto(t, g, 0, 10, 1), putInto(t, putInto(t, g, 0, 11, 1), 11, 10, 1)
	reversed, ok := impl.ReverseGraph(g)
	back, fine := impl.ReverseGraph(direct)
	if !ok || !fine {
		t.Fatal("a graph is not reversed")
	}
	for _, k := range allKinds() {
		wantTooManyPaths(t, k.name+" with an edge as last path", g, direct, k.m, 0, 10)
		wantTooManyPaths(t, k.name+" with two edges as last path", g, around, k.m, 0, 10)
		wantTooManyPaths(t, k.name+" with an edge as first path", reversed, back, k.m, 10, 0)
		// There are fewer paths between other nodes.
		wantPathsLikeScans(t, direct, k.m, 1, 10)
		wantPathsLikeScans(t, direct, k.m, 0, 6)
	}
}

func TestPathsAtLimits(t *testing.T) {
	last := impl.MaxNodes - 1
	long, full := row(impl.MaxNodes, impl.MaxWeight), greatestGraph()
	values := map[int]int{impl.MeasureLength: last * impl.MaxWeight, impl.MeasureWidth: impl.MaxWeight, impl.MeasurePeak: impl.MaxWeight, impl.MeasureReach: 1, impl.MeasureHops: last}
	for _, k := range allKinds() {
		longest := pathOf(values[k.m], firstNodes(impl.MaxNodes)...)
		got, ok := impl.SimplePaths(long, k.m, 0, last)
		wantPaths(t, k.name+": the longest row", got, ok, longest)
		wantPathsLikeScans(t, long, k.m, 0, last)
		wantPathsLikeScans(t, long, k.m, last, 0)
		wantPathsLikeScans(t, ring(impl.MaxNodes, impl.MaxWeight), k.m, last, last-1)
		for target := range impl.MaxNodes {
			wantPathsLikeScans(t, full, k.m, 0, target)
		}
		more := impl.Graph{Nodes: impl.MaxNodes, Edges: firstEdges(impl.MaxNodes, impl.MaxEdges+1)}
		wantNothingBetween(t, k.name+": an edge too many", more, k.m, 0, last)
		wantNothingBetween(t, k.name+": a node too many", row(impl.MaxNodes+1, 1), k.m, 0, last)
		heavy := impl.Graph{Nodes: 3, Edges: []impl.Edge{{From: 0, To: 1, Weight: impl.MaxWeight + 1}}}
		wantNothingBetween(t, k.name+": too great a weight", heavy, k.m, 0, 1)
		wantNothingBetween(t, k.name+": one past the last node", full, k.m, 0, impl.MaxNodes)
		wantNothingBetween(t, k.name+": from one past the last node", full, k.m, impl.MaxNodes, 0)
	}
}

// pathResultsOf are all results of one path, and each list of paths.
func pathResultsOf(g impl.Graph, m int, p impl.Path) [][]impl.Path {
	source, target := p.Nodes[0], p.Nodes[len(p.Nodes)-1]
	simple, _ := impl.SimplePaths(g, m, source, target)
	all, _ := impl.BestPaths(g, m, source, target, maxPaths)
	few, _ := impl.BestPaths(g, m, source, target, 2)
	next, _ := impl.NextPath(g, m, p)
	detour, _ := impl.DetourOf(g, m, p, 0)
	return [][]impl.Path{simple, all, few, {next}, {detour}}
}

// allNodesOf are the nodes of all paths of results, one after the other, also those of paths behind the length of a list.
func allNodesOf(results [][]impl.Path) [][]int {
	var all [][]int
	for _, list := range results {
		for _, p := range list[:cap(list)] {
			all = append(all, p.Nodes)
		}
	}
	return all
}

func TestPathArgumentsAreKept(t *testing.T) {
	for _, k := range allKinds() {
		// What is behind the lengths tells whether a function writes there.
		edges := firstEdges(4, 12)
		g := impl.Graph{Nodes: 4, Edges: edges[:9]}
		first, ok := impl.BestPaths(g, k.m, 0, 3, 1)
		if !ok || len(first) != 1 {
			t.Fatalf("%s: the best path from 0 to 3 = %v, %v", k.name, first, ok)
		}
		nodes := append(slices.Clone(first[0].Nodes), 7, 7, 7)
		before := slices.Clone(nodes)
		p := impl.Path{Nodes: nodes[:len(first[0].Nodes)], Value: first[0].Value}
		results := pathResultsOf(g, k.m, p)
		if counts := []int{len(results[0]), len(results[1]), len(results[2]), len(results[3][0].Nodes), len(results[4][0].Nodes)}; slices.Contains(counts, 0) {
			t.Fatalf("%s: the numbers of results are %v", k.name, counts)
		}
		got, copies := allNodesOf(results), allNodesOf(pathResultsOf(g, k.m, p))
		for i, numbers := range got {
			if !slices.Equal(numbers, copies[i]) {
				t.Errorf("%s: the nodes %d changed with another result, from %v to %v", k.name, i, copies[i], numbers)
			}
			overwrite(impl.Kept{Parents: numbers})
		}
		if !slices.Equal(nodes, before) || !slices.Equal(edges, firstEdges(4, 12)) {
			t.Errorf("%s: the arguments became %v and %v", k.name, nodes, edges)
		}
		for i, numbers := range allNodesOf(pathResultsOf(g, k.m, p)) {
			wantNumbers(t, fmt.Sprintf("%s: the nodes %d behind changes of results", k.name, i), numbers, true, copies[i]...)
		}
	}
}

// wantEachPathOnce checks that going on from the best path leads to each path once, in order.
func wantEachPathOnce(t *testing.T, k kindOfMeasures, g impl.Graph, source int, target int) {
	t.Helper()
	what := fmt.Sprintf("%s from %d to %d in %q", k.name, source, target, impl.FormatGraph(g))
	rows := simpleRows(g, source, target)
	best, ok := impl.BestPaths(g, k.m, source, target, maxPaths)
	if !ok || len(best) != len(rows) {
		t.Fatalf("%s: %d paths and %v, want %d and true", what, len(best), ok, len(rows))
	}
	var nodes [][]int
	for place, p := range best {
		nodes = append(nodes, p.Nodes)
		if place == 0 {
			continue
		}
		if before := best[place-1]; !inFrontByScans(k.m, before, p) || !impl.PathBefore(k.m, before, p) || impl.PathBefore(k.m, p, before) {
			t.Errorf("%s: %v is not in front of %v", what, before, p)
		}
	}
	slices.SortFunc(nodes, slices.Compare)
	if !slices.EqualFunc(nodes, rows, slices.Equal) {
		t.Errorf("%s: the paths are %v, want %v", what, nodes, rows)
	}
	wantBestValue(t, what, k, g, source, target, best)
	wantNextOfEach(t, what, k, g, best)
}

// wantBestValue checks that the first path has the value of the right view, by chapter 3.
func wantBestValue(t *testing.T, what string, k kindOfMeasures, g impl.Graph, source int, target int, best []impl.Path) {
	t.Helper()
	want := k.none
	if len(best) > 0 {
		want = best[0].Value
	}
	if right := viewOf(t, g, k.m, source).Values[target]; right != want {
		t.Errorf("%s: the best path has %d, but the view %d", what, want, right)
	}
}

// wantNextOfEach goes on by NextPath, and checks that the next best path leaves a better one at its best detour.
func wantNextOfEach(t *testing.T, what string, k kindOfMeasures, g impl.Graph, best []impl.Path) {
	t.Helper()
	for place := 0; place < len(best); place += 1 + len(best)/20 {
		p := best[place]
		rank, ok := impl.PathRank(g, k.m, p)
		wantValue(t, fmt.Sprintf("%s: the rank of %v", what, p), rank, ok, place)
		next, ok := impl.NextPath(g, k.m, p)
		if place+1 == len(best) {
			wantNoPath(t, fmt.Sprintf("%s: behind %v", what, p), next, ok)
		} else {
			wantPath(t, fmt.Sprintf("%s: behind %v", what, p), next, ok, best[place+1])
		}
		var detours []impl.Path
		for shared := range p.Nodes {
			if detour, ok := impl.DetourOf(g, k.m, p, shared); ok {
				detours = append(detours, detour)
			}
		}
		others := slices.DeleteFunc(slices.Clone(best), func(other impl.Path) bool { return samePath(other, p) })
		if len(others) != len(best)-1 || (len(detours) == 0) != (len(others) == 0) {
			t.Errorf("%s: %v has the detours %v of %d other paths", what, p, detours, len(others))
		} else if len(others) > 0 && !samePath(orderedByScans(k.m, detours)[0], others[0]) {
			t.Errorf("%s: the detours of %v are %v, without the best other path %v", what, p, detours, others[0])
		}
	}
}

func TestPromise11(t *testing.T) {
	random := rand.New(rand.NewSource(1111))
	for range 60 {
		count := 1 + random.Intn(8)
		g := randomGraph(random, count, random.Intn(min(3*count, impl.MaxEdges)), []int{1, 3, 30, impl.MaxWeight}[random.Intn(4)])
		source, target := random.Intn(count), random.Intn(count)
		if len(simpleRows(g, source, target)) > maxPaths {
			continue
		}
		for _, k := range allKinds() {
			wantEachPathOnce(t, k, g, source, target)
		}
	}
}

// TestPromise11InSmallGraphs has all graphs of three nodes with weights up to 2, and all of four nodes with the weight 1.
func TestPromise11InSmallGraphs(t *testing.T) {
	for _, g := range allGraphs(3, firstEdges(3, 6), 2) {
		for _, k := range allKinds() {
			for target := range 3 {
				wantEachPathOnce(t, k, g, 0, target)
			}
		}
	}
	for _, g := range allGraphs(4, firstEdges(4, 12), 1) {
		wantEachPathOnce(t, allKinds()[0], g, 0, 3)
	}
}
