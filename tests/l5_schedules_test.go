package tests

import (
	"fmt"
	"math"
	"math/rand"
	"slices"
	"sync"
	"testing"

	"loop.example/graphviews/impl"
)

func wantSteps(t *testing.T, what string, got impl.View, steps int, ok bool, want impl.View, wantSteps int) {
	t.Helper()
	if !ok || steps != wantSteps || !impl.ViewSame(got, want) {
		t.Errorf("%s = %v, %d, %v, want %v, %d, true", what, got, steps, ok, want, wantSteps)
	}
}

func wantNoSteps(t *testing.T, what string, got impl.View, steps int, ok bool) {
	t.Helper()
	if ok || steps != 0 || !impl.ViewSame(got, impl.View{}) {
		t.Errorf("%s = %v, %d, %v, want the zero value, 0, false", what, got, steps, ok)
	}
}

func withValues(v impl.View, values ...int) impl.View {
	v.Values = values
	return v
}

func startView(t *testing.T, g impl.Graph, m int, source int) impl.View {
	t.Helper()
	v, ok := impl.StartView(g, m, source)
	if !ok {
		t.Fatalf("%q has no start view of the kind %d from %d", impl.FormatGraph(g), m, source)
	}
	return v
}

// randomView is a valid view that need not be right.
func (k kindOfMeasures) randomView(random *rand.Rand, nodes int) impl.View {
	v := impl.View{Measure: k.m, Source: random.Intn(nodes)}
	some := k.someValues()
	for range nodes {
		value := some[random.Intn(len(some))]
		if random.Intn(2) == 0 {
			value = random.Intn(min(k.most, 60) + 1)
		}
		v.Values = append(v.Values, value)
	}
	return v
}

// views are the start view and the right view of a graph, and some that are not right.
func (k kindOfMeasures) views(t *testing.T, random *rand.Rand, g impl.Graph) []impl.View {
	t.Helper()
	source := random.Intn(g.Nodes)
	return []impl.View{startOf(k, g.Nodes, source), viewOf(t, g, k.m, source), k.randomView(random, g.Nodes), k.randomView(random, g.Nodes)}
}

// relaxedByBetterOf does what the document says of relaxing an edge.
func relaxedByBetterOf(t *testing.T, v impl.View, e impl.Edge) impl.View {
	t.Helper()
	edge, ok := impl.EdgeMeasure(v.Measure, e.Weight)
	better, fine := impl.BetterOf(v.Measure, v.Values[e.To], extended(t, v.Measure, v.Values[e.From], edge))
	if !ok || !fine {
		t.Fatalf("the edge %v is not relaxed in %v", e, v)
	}
	v.Values = slices.Clone(v.Values)
	v.Values[e.To] = better
	return v
}

func looseByBetterOf(t *testing.T, g impl.Graph, v impl.View) []int {
	t.Helper()
	var loose []int
	for edge, e := range g.Edges {
		if !impl.ViewSame(relaxedByBetterOf(t, v, e), v) {
			loose = append(loose, edge)
		}
	}
	return loose
}

// finishedByScans does what the document says of FinishView.
func finishedByScans(t *testing.T, g impl.Graph, v impl.View) (impl.View, int) {
	t.Helper()
	for steps := 0; ; steps++ {
		loose := looseByBetterOf(t, g, v)
		if len(loose) == 0 {
			return v, steps
		}
		v = relaxedByBetterOf(t, v, g.Edges[loose[0]])
	}
}

// workedByScans does what the document says of WorkList, one edge at a time.
func workedByScans(t *testing.T, g impl.Graph, v impl.View, changed []int) (impl.View, int) {
	t.Helper()
	queue := slices.Clone(changed)
	steps := 0
	for len(queue) > 0 {
		node := queue[0]
		queue = queue[1:]
		for _, e := range g.Edges {
			if e.From != node {
				continue
			}
			steps++
			relaxed := relaxedByBetterOf(t, v, e)
			if !impl.ViewSame(relaxed, v) && !slices.Contains(queue, e.To) {
				queue = append(slices.Clone(queue), e.To)
			}
			v = relaxed
		}
	}
	return v, steps
}

// stableFrom is the view that rounds of all edges reach.
func stableFrom(t *testing.T, g impl.Graph, v impl.View) impl.View {
	t.Helper()
	for range impl.MaxNodes {
		relaxed, ok := impl.RelaxAll(g, v)
		if !ok {
			t.Fatalf("%v is no view of %q", v, impl.FormatGraph(g))
		}
		v = relaxed
	}
	if !impl.IsStable(g, v) {
		t.Fatalf("%v is not stable in %q", v, impl.FormatGraph(g))
	}
	return v
}

// randomOrder may leave edges out, and have others several times.
func randomOrder(random *rand.Rand, edges int, count int) []int {
	var order []int
	for range count {
		if edges > 0 {
			order = append(order, random.Intn(edges))
		}
	}
	return order
}

// fairOrder has each edge once in each of its rounds.
func fairOrder(random *rand.Rand, edges int, rounds int) []int {
	var order []int
	for range rounds {
		order = append(order, random.Perm(edges)...)
	}
	return order
}

func TestScheduleExample(t *testing.T) {
	g := graphOf(t, "3 0>1=5 1>2=7")
	v := startView(t, g, impl.MeasureLength, 0)
	got, ok := impl.RunSchedule(g, v, []int{1, 0})
	wantView(t, "the order 1, 0", got, ok, withValues(v, 0, 5, 100000))
	got, ok = impl.RunSchedule(g, v, []int{0, 1})
	wantView(t, "the order 0, 1", got, ok, withValues(v, 0, 5, 12))
}

// relaxing is an edge that is relaxed in a view.
type relaxing struct {
	text string
	m    int
	from []int
	edge int
	want []int
}

func relaxings() []relaxing {
	return []relaxing{
		{"3 0>1=5 1>2=7", impl.MeasureLength, []int{0, 100000, 100000}, 0, []int{0, 5, 100000}},
		{"3 0>1=5 1>2=7", impl.MeasureLength, []int{0, 100000, 100000}, 1, []int{0, 100000, 100000}},
		{"3 0>1=5 1>2=7", impl.MeasureLength, []int{0, 5, 100000}, 1, []int{0, 5, 12}},
		{"3 0>1=5 1>2=7", impl.MeasureLength, []int{0, 5, 12}, 1, []int{0, 5, 12}},
		{"3 0>1=5 1>2=7", impl.MeasureLength, []int{0, 5, 11}, 1, []int{0, 5, 11}},
		{"3 0>1=5 1>2=7", impl.MeasureLength, []int{0, 5, 13}, 1, []int{0, 5, 12}},
		{"3 0>1=5 1>2=7", impl.MeasureWidth, []int{100000, 0, 0}, 0, []int{100000, 5, 0}},
		{"3 0>1=5 1>2=7", impl.MeasureWidth, []int{100000, 5, 0}, 1, []int{100000, 5, 5}},
		{"3 0>1=5 1>2=7", impl.MeasureWidth, []int{100000, 5, 6}, 1, []int{100000, 5, 6}},
		{"3 0>1=5 1>2=7", impl.MeasurePeak, []int{0, 5, 100000}, 1, []int{0, 5, 7}},
		{"3 0>1=5 1>2=7", impl.MeasurePeak, []int{0, 9, 100000}, 1, []int{0, 9, 9}},
		{"3 0>1=5 1>2=7", impl.MeasureReach, []int{1, 0, 0}, 0, []int{1, 1, 0}},
		{"3 0>1=5 1>2=7", impl.MeasureReach, []int{0, 0, 1}, 1, []int{0, 0, 1}},
		{"3 0>1=5 1>2=7", impl.MeasureHops, []int{0, 1, 100000}, 1, []int{0, 1, 2}},
		{"3 0>1=5 1>2=7", impl.MeasureHops, []int{0, 1, 2}, 1, []int{0, 1, 2}},
		// The value of the source can be improved too, in a view that is not right.
		{"3 0>1=5 2>0=7", impl.MeasureLength, []int{8, 100000, 0}, 1, []int{7, 100000, 0}},
		// A sum stops at MaxMeasure, and is not better than no path.
		{"2 0>1=1", impl.MeasureLength, []int{99998, 100000}, 0, []int{99998, 99999}},
		{"2 0>1=1", impl.MeasureLength, []int{99999, 100000}, 0, []int{99999, 100000}},
		{"2 0>1=999", impl.MeasureHops, []int{99999, 100000}, 0, []int{99999, 100000}},
	}
}

func TestRelaxEdge(t *testing.T) {
	for _, c := range relaxings() {
		g := graphOf(t, c.text)
		for source := range g.Nodes {
			what := fmt.Sprintf("the edge %d of %q in %v", c.edge, c.text, c.from)
			v := impl.View{Measure: c.m, Source: source, Values: c.from}
			got, ok := impl.RelaxEdge(g, v, c.edge)
			wantView(t, what, got, ok, withValues(v, c.want...))
			if loose := slices.Contains(impl.LooseEdges(g, v), c.edge); loose == slices.Equal(c.from, c.want) {
				t.Errorf("%s is loose: %v", what, loose)
			}
		}
	}
}

func TestRunSchedule(t *testing.T) {
	g := graphOf(t, "4 0>1=9 0>2=1 1>3=1 2>1=1")
	cases := []struct {
		order  []int
		values [5][]int
	}{
		// No edges.
		{nil, [5][]int{{0, 100000, 100000, 100000}, {100000, 0, 0, 0}, {0, 100000, 100000, 100000}, {1, 0, 0, 0}, {0, 100000, 100000, 100000}}},
		// The node 1 changes twice, and 3 sees the first value only, or both.
		{[]int{0, 2, 1, 3}, [5][]int{{0, 2, 1, 10}, {100000, 9, 1, 1}, {0, 1, 1, 9}, {1, 1, 1, 1}, {0, 1, 1, 2}}},
		{[]int{0, 2, 1, 3, 2}, [5][]int{{0, 2, 1, 3}, {100000, 9, 1, 1}, {0, 1, 1, 1}, {1, 1, 1, 1}, {0, 1, 1, 2}}},
		// The order leaves an edge out: 0>1, 0>2, 1>3 or 2>1.
		{[]int{1, 3, 2, 1, 3, 2}, [5][]int{{0, 2, 1, 3}, {100000, 1, 1, 1}, {0, 1, 1, 1}, {1, 1, 1, 1}, {0, 2, 1, 3}}},
		{[]int{0, 2, 3, 0, 2, 3}, [5][]int{{0, 9, 100000, 10}, {100000, 9, 0, 1}, {0, 9, 100000, 9}, {1, 1, 0, 1}, {0, 1, 100000, 2}}},
		{[]int{0, 1, 3, 0, 1, 3}, [5][]int{{0, 2, 1, 100000}, {100000, 9, 1, 0}, {0, 1, 1, 100000}, {1, 1, 1, 0}, {0, 1, 1, 100000}}},
		{[]int{0, 1, 2, 0, 1, 2}, [5][]int{{0, 9, 1, 10}, {100000, 9, 1, 1}, {0, 9, 1, 9}, {1, 1, 1, 1}, {0, 1, 1, 2}}},
		// An edge is relaxed in the view as it is then, so that the order matters.
		{[]int{2, 3, 1, 0}, [5][]int{{0, 9, 1, 100000}, {100000, 9, 1, 0}, {0, 9, 1, 100000}, {1, 1, 1, 0}, {0, 1, 1, 100000}}},
		{[]int{1, 1, 3, 3, 2, 2}, [5][]int{{0, 2, 1, 3}, {100000, 1, 1, 1}, {0, 1, 1, 1}, {1, 1, 1, 1}, {0, 2, 1, 3}}},
	}
	for _, c := range cases {
		for i, k := range allKinds() {
			v := startView(t, g, k.m, 0)
			got, ok := impl.RunSchedule(g, v, c.order)
			wantView(t, fmt.Sprintf("%s: the order %v", k.name, c.order), got, ok, withValues(v, c.values[i]...))
			for node := range g.Nodes {
				values, ok := impl.ValuesOf(g, v, c.order, node)
				wantValue(t, fmt.Sprintf("%s: the last value of %d in the order %v", k.name, node, c.order), values[len(values)-1], ok, c.values[i][node])
			}
		}
	}
}

func TestValuesOf(t *testing.T) {
	g := graphOf(t, "4 0>1=9 0>2=1 1>3=1 2>1=1")
	v := startView(t, g, impl.MeasureLength, 0)
	cases := []struct {
		order []int
		node  int
		want  []int
	}{
		{nil, 0, []int{0}}, {nil, 3, []int{100000}},
		// The nodes 1 and 3 change twice.
		{[]int{0, 2, 1, 3, 2}, 0, []int{0, 0, 0, 0, 0, 0}},
		{[]int{0, 2, 1, 3, 2}, 1, []int{100000, 9, 9, 9, 2, 2}},
		{[]int{0, 2, 1, 3, 2}, 2, []int{100000, 100000, 100000, 1, 1, 1}},
		{[]int{0, 2, 1, 3, 2}, 3, []int{100000, 100000, 10, 10, 10, 3}},
		{[]int{2, 2, 2}, 3, []int{100000, 100000, 100000, 100000}},
	}
	for _, c := range cases {
		got, ok := impl.ValuesOf(g, v, c.order, c.node)
		wantNumbers(t, fmt.Sprintf("the values of %d in the order %v", c.node, c.order), got, ok, c.want...)
	}
	wide := startView(t, g, impl.MeasureWidth, 0)
	got, ok := impl.ValuesOf(g, wide, []int{1, 3, 0, 3}, 1)
	wantNumbers(t, "the widths of 1", got, ok, 0, 0, 1, 9, 9)
}

func TestLooseEdges(t *testing.T) {
	g := graphOf(t, "4 0>1=9 0>2=1 1>3=1 2>1=1")
	cases := []struct {
		m      int
		values []int
		want   []int
	}{
		{impl.MeasureLength, []int{0, 100000, 100000, 100000}, []int{0, 1}},
		{impl.MeasureLength, []int{0, 9, 1, 10}, []int{3}},
		{impl.MeasureLength, []int{0, 9, 1, 11}, []int{2, 3}},
		{impl.MeasureLength, []int{0, 2, 1, 3}, nil},
		{impl.MeasureLength, []int{0, 0, 0, 0}, nil},
		{impl.MeasureLength, []int{100000, 100000, 100000, 100000}, nil},
		{impl.MeasureLength, []int{99990, 100000, 99992, 100000}, []int{0, 1, 3}},
		{impl.MeasureLength, []int{99991, 100000, 99992, 100000}, []int{3}},
		{impl.MeasureWidth, []int{100000, 0, 0, 0}, []int{0, 1}},
		{impl.MeasureWidth, []int{100000, 9, 1, 0}, []int{2}},
		{impl.MeasureWidth, []int{100000, 8, 1, 1}, []int{0}},
		{impl.MeasureWidth, []int{0, 0, 0, 0}, nil},
		{impl.MeasurePeak, []int{0, 9, 1, 9}, []int{3}},
		{impl.MeasurePeak, []int{0, 8, 1, 9}, []int{2, 3}},
		{impl.MeasureReach, []int{0, 0, 1, 0}, []int{3}},
		{impl.MeasureReach, []int{1, 0, 0, 0}, []int{0, 1}},
		{impl.MeasureReach, []int{1, 1, 1, 1}, nil},
		{impl.MeasureHops, []int{0, 2, 1, 3}, []int{0}},
		{impl.MeasureHops, []int{3, 2, 0, 4}, []int{2, 3}},
	}
	for _, c := range cases {
		for source := range g.Nodes {
			v := impl.View{Measure: c.m, Source: source, Values: c.values}
			wantNumbers(t, fmt.Sprintf("the loose edges of %v of the kind %d", c.values, c.m), impl.LooseEdges(g, v), true, c.want...)
		}
	}
}

func TestFinishView(t *testing.T) {
	cases := []struct {
		text   string
		source int
		values [5][]int
		steps  [5]int
	}{
		{"3 0>1=5 1>2=7", 0, [5][]int{{0, 5, 12}, {100000, 5, 5}, {0, 5, 7}, {1, 1, 1}, {0, 1, 2}}, [5]int{2, 2, 2, 2, 2}},
		// The node 1 changes twice, and 3 behind it.
		{"4 0>1=9 0>2=1 1>3=1 2>1=1", 0, [5][]int{{0, 2, 1, 3}, {100000, 9, 1, 1}, {0, 1, 1, 1}, {1, 1, 1, 1}, {0, 1, 1, 2}}, [5]int{5, 3, 5, 3, 3}},
		// The edge from 3 to 1 comes behind those from 0 and 1, which are loose as soon as 0 is reached, and is not loose then, but for width and hops.
		{"4 0>1=1 1>2=1 3>0=1 3>1=5", 3, [5][]int{{1, 2, 3, 0}, {1, 5, 1, 100000}, {1, 1, 1, 0}, {1, 1, 1, 1}, {1, 1, 2, 0}}, [5]int{3, 4, 3, 3, 5}},
		// Nothing is to do.
		{"3 1>2=7 2>0=5", 0, [5][]int{{0, 100000, 100000}, {100000, 0, 0}, {0, 100000, 100000}, {1, 0, 0}, {0, 100000, 100000}}, [5]int{}},
		{"1", 0, [5][]int{{0}, {100000}, {0}, {1}, {0}}, [5]int{}},
	}
	for _, c := range cases {
		g := graphOf(t, c.text)
		for i, k := range allKinds() {
			v := startView(t, g, k.m, c.source)
			got, steps, ok := impl.FinishView(g, v)
			wantSteps(t, fmt.Sprintf("%s: FinishView of %q from %d", k.name, c.text, c.source), got, steps, ok, withValues(v, c.values[i]...), c.steps[i])
		}
	}
}

// TestManySteps has a view that takes thousands of steps, which are fewer than 20000, as in all views that a search for a slow one came upon.
func TestManySteps(t *testing.T) {
	g := graphOf(t, "12 0>2=26 0>3=23 0>4=19 0>5=12 1>0=1 1>6=5 1>7=3 1>8=1 1>9=1 1>10=132 2>1=1 3>1=3 3>2=1 4>2=4 4>3=1"+
		" 5>0=14 5>1=9 5>3=5 5>4=1 6>0=27 6>5=1 7>0=83 7>5=52 7>6=1 8>0=210 8>5=179 8>6=124 8>7=1"+
		" 9>0=491 9>5=459 9>6=384 9>7=261 9>8=10 10>5=949 10>6=895 10>7=776 10>8=530 10>9=1 11>9=998 11>10=4")
	values := []int{78509, 73931, 97683, 59323, 43692, 31706, 27005, 21718, 10082, 5929, 4491, 1568}
	v := impl.View{Measure: impl.MeasureLength, Source: 11, Values: values}
	wanted, count := finishedByScans(t, g, v)
	got, steps, ok := impl.FinishView(g, v)
	wantSteps(t, "the slow view", got, steps, ok, wanted, count)
	wantValue(t, "the steps of the slow view", steps, ok, 6173)
	wantView(t, "the slow view", got, ok, stableFrom(t, g, v))
}

// TestViewsThatAreStableAtOnce has the right views, and others in which nothing changes.
func TestViewsThatAreStableAtOnce(t *testing.T) {
	random := rand.New(rand.NewSource(51))
	for range 40 {
		g := randomGraph(random, 1+random.Intn(impl.MaxNodes), random.Intn(impl.MaxEdges+1), 1+random.Intn(30))
		for _, k := range allKinds() {
			source := random.Intn(g.Nodes)
			all := startOf(k, g.Nodes, source)
			all.Values = slices.Repeat([]int{k.empty}, g.Nodes)
			none := startOf(k, g.Nodes, source)
			none.Values[source] = k.none
			for _, v := range []impl.View{viewOf(t, g, k.m, source), all, none} {
				what := fmt.Sprintf("%s: the stable view %v of %q", k.name, v, impl.FormatGraph(g))
				got, steps, ok := impl.FinishView(g, v)
				wantSteps(t, what+": FinishView", got, steps, ok, v, 0)
				got, ok = impl.RunSchedule(g, v, randomOrder(random, len(g.Edges), 30))
				wantView(t, what+": RunSchedule", got, ok, v)
				got, steps, ok = impl.WorkList(g, v, random.Perm(g.Nodes))
				wantSteps(t, what+": WorkList", got, steps, ok, v, len(g.Edges))
				wantNumbers(t, what+": LooseEdges", impl.LooseEdges(g, v), true)
			}
		}
	}
}

func TestFairRounds(t *testing.T) {
	g := graphOf(t, "3 0>1=5 0>2=20 1>2=7")
	cases := []struct {
		order []int
		want  int
	}{
		{nil, 0}, {[]int{0}, 0}, {[]int{0, 1}, 0}, {[]int{0, 1, 2}, 1}, {[]int{2, 0, 1}, 1},
		// An edge is left out.
		{[]int{0, 1, 1, 0, 0, 1, 1, 0}, 0}, {[]int{2, 1, 2, 1, 2, 1}, 0}, {[]int{0, 2, 2, 0}, 0},
		// What is left is no round.
		{[]int{0, 1, 2, 2}, 1}, {[]int{0, 1, 2, 2, 1}, 1}, {[]int{0, 1, 2, 0, 0, 0, 1}, 1},
		{[]int{0, 1, 2, 2, 1, 0}, 2}, {[]int{0, 1, 2, 2, 1, 0, 1, 0, 2}, 3},
		// A round ends as soon as it can, and an edge that is in it twice does not count for the next one.
		{[]int{0, 0, 1, 1, 2, 2}, 1}, {[]int{2, 2, 2, 1, 0, 0, 1, 2}, 2}, {[]int{0, 1, 0, 2, 1, 2}, 1}, {[]int{0, 1, 0, 2, 1, 2, 0}, 2},
	}
	for _, c := range cases {
		got, ok := impl.FairRounds(g, c.order)
		wantValue(t, fmt.Sprintf("FairRounds of %v", c.order), got, ok, c.want)
	}
	for _, text := range []string{"1", "2", "12"} {
		none := graphOf(t, text)
		for _, order := range [][]int{nil, {}} {
			got, ok := impl.FairRounds(none, order)
			wantValue(t, "FairRounds without edges", got, ok, 0)
		}
		got, ok := impl.FairRounds(none, []int{0})
		wantNoValue(t, "an order of no edges", got, ok)
	}
}

func TestFairRoundsOfPermutations(t *testing.T) {
	random := rand.New(rand.NewSource(52))
	for range 100 {
		g := randomGraph(random, 2+random.Intn(impl.MaxNodes-1), 1+random.Intn(impl.MaxEdges), 9)
		rounds := random.Intn(13)
		order := fairOrder(random, len(g.Edges), rounds)
		got, ok := impl.FairRounds(g, order)
		wantValue(t, fmt.Sprintf("%d permutations of %d edges", rounds, len(g.Edges)), got, ok, rounds)
		if len(order) > 0 {
			got, ok = impl.FairRounds(g, order[:len(order)-1])
			wantValue(t, fmt.Sprintf("%d permutations of %d edges without the last one", rounds, len(g.Edges)), got, ok, rounds-1)
		}
	}
}

func TestWorkList(t *testing.T) {
	cases := []struct {
		text    string
		changed []int
		values  [5][]int
		steps   [5]int
	}{
		{"3 0>1=5 1>2=7", nil, [5][]int{{0, 100000, 100000}, {100000, 0, 0}, {0, 100000, 100000}, {1, 0, 0}, {0, 100000, 100000}}, [5]int{}},
		{"3 0>1=5 1>2=7", []int{0}, [5][]int{{0, 5, 12}, {100000, 5, 5}, {0, 5, 7}, {1, 1, 1}, {0, 1, 2}}, [5]int{2, 2, 2, 2, 2}},
		// Edges are counted whether or not they change anything, and the order of the nodes matters.
		{"3 0>1=5 1>2=7", []int{0, 1}, [5][]int{{0, 5, 12}, {100000, 5, 5}, {0, 5, 7}, {1, 1, 1}, {0, 1, 2}}, [5]int{2, 2, 2, 2, 2}},
		{"3 0>1=5 1>2=7", []int{1, 0}, [5][]int{{0, 5, 12}, {100000, 5, 5}, {0, 5, 7}, {1, 1, 1}, {0, 1, 2}}, [5]int{3, 3, 3, 3, 3}},
		// A loose edge that is not from one of the nodes is not looked at.
		{"3 0>1=5 1>2=7", []int{1, 2}, [5][]int{{0, 100000, 100000}, {100000, 0, 0}, {0, 100000, 100000}, {1, 0, 0}, {0, 100000, 100000}}, [5]int{1, 1, 1, 1, 1}},
		// The node 1 is taken before it changes again, and comes to the end of the queue twice, for length and peak.
		{"4 0>1=9 0>2=1 1>3=1 2>1=1", []int{0}, [5][]int{{0, 2, 1, 3}, {100000, 9, 1, 1}, {0, 1, 1, 1}, {1, 1, 1, 1}, {0, 1, 1, 2}}, [5]int{5, 4, 5, 4, 4}},
		// The node 2 changes twice while it is in the queue.
		{"4 0>1=1 0>2=9 1>2=1 2>3=1", []int{0}, [5][]int{{0, 1, 2, 3}, {100000, 1, 9, 1}, {0, 1, 1, 1}, {1, 1, 1, 1}, {0, 1, 1, 2}}, [5]int{4, 4, 4, 4, 4}},
		// A cycle ends where nothing is better.
		{"3 0>1=1 1>2=1 2>0=1", []int{0}, [5][]int{{0, 1, 2}, {100000, 1, 1}, {0, 1, 1}, {1, 1, 1}, {0, 1, 2}}, [5]int{3, 3, 3, 3, 3}},
		{"1", []int{0}, [5][]int{{0}, {100000}, {0}, {1}, {0}}, [5]int{}},
	}
	for _, c := range cases {
		g := graphOf(t, c.text)
		for i, k := range allKinds() {
			v := startView(t, g, k.m, 0)
			got, steps, ok := impl.WorkList(g, v, c.changed)
			wantSteps(t, fmt.Sprintf("%s: WorkList of %v in %q", k.name, c.changed, c.text), got, steps, ok, withValues(v, c.values[i]...), c.steps[i])
		}
	}
}

// TestWorkListBehindAnEdge checks that a view is right again if an edge got a better value and its From is in the queue.
func TestWorkListBehindAnEdge(t *testing.T) {
	random := rand.New(rand.NewSource(53))
	for range 60 {
		g := randomGraph(random, 2+random.Intn(impl.MaxNodes-1), random.Intn(30), 1+random.Intn(30))
		from := random.Intn(g.Nodes)
		to := (from + 1 + random.Intn(g.Nodes-1)) % g.Nodes
		if _, there := impl.WeightOf(g, from, to); there {
			continue
		}
		put, ok := impl.PutEdge(g, impl.Edge{From: from, To: to, Weight: 1 + random.Intn(30)})
		for _, k := range allKinds() {
			source := random.Intn(g.Nodes)
			got, _, fine := impl.WorkList(put, viewOf(t, g, k.m, source), []int{from})
			wantView(t, fmt.Sprintf("%s: from %d to %d, put into %q", k.name, from, to, impl.FormatGraph(g)), got, ok && fine, viewOf(t, put, k.m, source))
		}
	}
}

func TestSchedulesLikeScans(t *testing.T) {
	random := rand.New(rand.NewSource(54))
	for range 60 {
		g := randomGraph(random, 1+random.Intn(impl.MaxNodes), random.Intn(impl.MaxEdges+1), 1+random.Intn(40))
		order := randomOrder(random, len(g.Edges), random.Intn(60))
		changed := random.Perm(g.Nodes)[:random.Intn(g.Nodes+1)]
		for _, k := range allKinds() {
			for _, v := range k.views(t, random, g) {
				what := fmt.Sprintf("%s: %v in %q", k.name, v, impl.FormatGraph(g))
				wantNumbers(t, what+": LooseEdges", impl.LooseEdges(g, v), true, looseByBetterOf(t, g, v)...)
				wantSchedule(t, what, g, v, order)
				wanted, count := finishedByScans(t, g, v)
				got, steps, ok := impl.FinishView(g, v)
				wantSteps(t, what+": FinishView", got, steps, ok, wanted, count)
				wanted, count = workedByScans(t, g, v, changed)
				got, steps, ok = impl.WorkList(g, v, changed)
				wantSteps(t, fmt.Sprintf("%s: WorkList of %v", what, changed), got, steps, ok, wanted, count)
			}
		}
	}
}

// wantSchedule checks RelaxEdge, RunSchedule and ValuesOf against relaxing one edge after the other.
func wantSchedule(t *testing.T, what string, g impl.Graph, v impl.View, order []int) {
	t.Helper()
	wanted := v
	values := make([][]int, g.Nodes)
	for node := range g.Nodes {
		values[node] = []int{v.Values[node]}
	}
	for _, edge := range order {
		next := relaxedByBetterOf(t, wanted, g.Edges[edge])
		got, ok := impl.RelaxEdge(g, wanted, edge)
		wantView(t, fmt.Sprintf("%s: RelaxEdge of %d", what, edge), got, ok, next)
		wanted = next
		for node := range g.Nodes {
			values[node] = append(values[node], wanted.Values[node])
		}
	}
	got, ok := impl.RunSchedule(g, v, order)
	wantView(t, fmt.Sprintf("%s: RunSchedule of %v", what, order), got, ok, wanted)
	for node := range g.Nodes {
		got, ok := impl.ValuesOf(g, v, order, node)
		wantNumbers(t, fmt.Sprintf("%s: the values of %d in %v", what, node, order), got, ok, values[node]...)
	}
}

func TestSchedulesAtLimits(t *testing.T) {
	one := graphOf(t, "2 0>1=5")
	v := startView(t, one, impl.MeasureLength, 0)
	for _, count := range []int{499, 500} {
		order := slices.Repeat([]int{0}, count)
		got, ok := impl.RunSchedule(one, v, order)
		wantView(t, fmt.Sprintf("an order of %d", count), got, ok, withValues(v, 0, 5))
		rounds, ok := impl.FairRounds(one, order)
		wantValue(t, fmt.Sprintf("the rounds of an order of %d", count), rounds, ok, count)
		values, ok := impl.ValuesOf(one, v, order, 1)
		wantNumbers(t, fmt.Sprintf("the values of an order of %d", count), values, ok, append([]int{100000}, slices.Repeat([]int{5}, count)...)...)
	}
	for _, count := range []int{501, 502, 100000} {
		wantNoOrder(t, fmt.Sprintf("an order of %d", count), one, v, slices.Repeat([]int{0}, count))
	}
	full := greatestGraph()
	v = startView(t, full, impl.MeasureHops, impl.MaxNodes-1)
	last := impl.MaxEdges - 1
	got, ok := impl.RelaxEdge(full, v, last)
	wantView(t, "the last edge", got, ok, relaxedByBetterOf(t, v, full.Edges[last]))
	got, ok = impl.RelaxEdge(full, v, impl.MaxEdges)
	wantNoView(t, "one past the last edge", got, ok)
	all := fairOrder(rand.New(rand.NewSource(55)), impl.MaxEdges, 13)
	rounds, ok := impl.FairRounds(full, all[:500])
	wantValue(t, "the rounds of the greatest graph", rounds, ok, 12)
	wantNoOrder(t, "the greatest graph", full, v, all[:501])
	wantNoOrder(t, "the greatest graph", full, v, []int{last, impl.MaxEdges})
}

// TestWorkListsAtLimits has as many nodes as there can be, in several orders, and one more.
func TestWorkListsAtLimits(t *testing.T) {
	random := rand.New(rand.NewSource(56))
	for _, g := range []impl.Graph{greatestGraph(), row(impl.MaxNodes, impl.MaxWeight), ring(impl.MaxNodes, 1)} {
		for _, k := range allKinds() {
			v := startView(t, g, k.m, 0)
			all := random.Perm(impl.MaxNodes)
			wanted, count := workedByScans(t, g, v, all)
			got, steps, ok := impl.WorkList(g, v, all)
			wantSteps(t, fmt.Sprintf("%s: all nodes, as %v", k.name, all), got, steps, ok, wanted, count)
			wantView(t, k.name+": all nodes", got, ok, viewOf(t, g, k.m, 0))
			for _, more := range []int{0, impl.MaxNodes - 1, impl.MaxNodes} {
				got, steps, ok := impl.WorkList(g, v, append(slices.Clone(all), more))
				wantNoSteps(t, fmt.Sprintf("%s: all nodes and %d", k.name, more), got, steps, ok)
			}
			got, steps, ok = impl.WorkList(g, v, make([]int, 100000))
			wantNoSteps(t, k.name+": very many nodes", got, steps, ok)
		}
	}
}

// wantNoOrder checks the functions that have an order.
func wantNoOrder(t *testing.T, what string, g impl.Graph, v impl.View, order []int) {
	t.Helper()
	got, ok := impl.RunSchedule(g, v, order)
	wantNoView(t, what+": RunSchedule", got, ok)
	rounds, ok := impl.FairRounds(g, order)
	wantNoValue(t, what+": FairRounds", rounds, ok)
	for _, node := range []int{0, 1} {
		values, ok := impl.ValuesOf(g, v, order, node)
		wantNoNumbers(t, what+": ValuesOf", values, ok)
	}
}

// wantNothingRelaxed checks the functions that have a view.
func wantNothingRelaxed(t *testing.T, what string, g impl.Graph, v impl.View) {
	t.Helper()
	got, ok := impl.RelaxEdge(g, v, 0)
	wantNoView(t, what+": RelaxEdge", got, ok)
	for _, list := range [][]int{nil, {0}, {0, 1}} {
		got, ok = impl.RunSchedule(g, v, list)
		wantNoView(t, what+": RunSchedule", got, ok)
		values, ok := impl.ValuesOf(g, v, list, 0)
		wantNoNumbers(t, what+": ValuesOf", values, ok)
		got, steps, ok := impl.WorkList(g, v, list)
		wantNoSteps(t, what+": WorkList", got, steps, ok)
	}
	got, steps, ok := impl.FinishView(g, v)
	wantNoSteps(t, what+": FinishView", got, steps, ok)
	if loose := impl.LooseEdges(g, v); len(loose) != 0 {
		t.Errorf("%s: LooseEdges = %v", what, loose)
	}
}

func TestSchedulesOfInvalidViews(t *testing.T) {
	for _, text := range []string{"3", "3 0>1=5 1>2=7", "3 0>1=5 0>2=1 2>0=7"} {
		for name, v := range invalidViews() {
			wantNothingRelaxed(t, name, graphOf(t, text), v)
		}
	}
	for name, g := range invalidGraphs() {
		for _, k := range allKinds() {
			for _, nodes := range []int{1, 3, impl.MaxNodes, impl.MaxNodes + 1} {
				wantNothingRelaxed(t, name, g, startOf(k, nodes, 0))
			}
		}
		wantNothingRelaxed(t, name, g, impl.View{Measure: 1})
		for _, order := range [][]int{nil, {0}, {0, 1}} {
			rounds, ok := impl.FairRounds(g, order)
			wantNoValue(t, name+": FairRounds", rounds, ok)
		}
	}
}

func TestInvalidNumbersOfEdges(t *testing.T) {
	for _, text := range []string{"3", "3 0>1=5 1>2=7"} {
		g := graphOf(t, text)
		for _, k := range allKinds() {
			v := startView(t, g, k.m, 0)
			for _, edge := range []int{-1, len(g.Edges), 39, 40, math.MinInt, math.MaxInt} {
				what := fmt.Sprintf("%s: the edge %d of %q", k.name, edge, text)
				got, ok := impl.RelaxEdge(g, v, edge)
				wantNoView(t, what+": RelaxEdge", got, ok)
				wantNoOrder(t, what, g, v, []int{edge})
				if len(g.Edges) > 0 {
					wantNoOrder(t, what, g, v, []int{edge, 0, 1})
					wantNoOrder(t, what, g, v, []int{0, edge, 1})
					wantNoOrder(t, what, g, v, []int{0, 1, edge})
					wantNoOrder(t, what, g, v, append(slices.Repeat([]int{1}, 499), edge))
				}
			}
		}
	}
}

func TestInvalidNodesOfSchedules(t *testing.T) {
	g := graphOf(t, "3 0>1=5 1>2=7")
	for _, k := range allKinds() {
		v := startView(t, g, k.m, 0)
		for _, node := range []int{-1, 3, 11, 12, math.MinInt, math.MaxInt} {
			what := fmt.Sprintf("%s: the node %d", k.name, node)
			for _, order := range [][]int{nil, {0, 1}} {
				values, ok := impl.ValuesOf(g, v, order, node)
				wantNoNumbers(t, what+": ValuesOf", values, ok)
			}
			for _, changed := range [][]int{{node}, {node, 0}, {0, 1, node}, {0, node, 2}} {
				got, steps, ok := impl.WorkList(g, v, changed)
				wantNoSteps(t, what+": WorkList", got, steps, ok)
			}
		}
		for _, changed := range [][]int{{0, 0}, {2, 2}, {0, 1, 0}, {0, 1, 2, 1}, {1, 0, 2, 2}} {
			got, steps, ok := impl.WorkList(g, v, changed)
			wantNoSteps(t, fmt.Sprintf("%s: the nodes %v", k.name, changed), got, steps, ok)
		}
	}
}

func TestScheduleArgumentsAreKept(t *testing.T) {
	// What is behind the length tells whether a function writes there.
	all := firstEdges(4, 12)
	g := impl.Graph{Nodes: 4, Edges: all[:9]}
	for _, k := range allKinds() {
		long := append(startOf(k, 4, 1).Values, 1, 1, 1, 1)
		before := slices.Clone(long)
		order := []int{3, 4, 5, 0, 8, 7, 7}
		changed := []int{1, 0, 2, 2, 2}
		v := impl.View{Measure: k.m, Source: 1, Values: long[:4]}
		results := schedulesOf(g, v, order[:5], changed[:3])
		copies := schedulesOf(g, v, order[:5], changed[:3])
		for name, numbers := range results {
			if len(numbers) == 0 || !slices.Equal(numbers, copies[name]) {
				t.Errorf("%s: %s is empty, or changed with another result, from %v to %v", k.name, name, copies[name], numbers)
			}
			numbers = numbers[:cap(numbers)]
			for place := range numbers {
				numbers[place] = 77
			}
		}
		if !slices.Equal(order, []int{3, 4, 5, 0, 8, 7, 7}) || !slices.Equal(changed, []int{1, 0, 2, 2, 2}) || !slices.Equal(long, before) || !slices.Equal(all, firstEdges(4, 12)) {
			t.Errorf("%s: the arguments became %v, %v, %v and %v", k.name, order, changed, long, all)
		}
		for name, numbers := range schedulesOf(g, v, order[:5], changed[:3]) {
			wantNumbers(t, k.name+": behind a change of a result, "+name, numbers, true, copies[name]...)
		}
	}
}

// schedulesOf are the results with slices of all functions.
func schedulesOf(g impl.Graph, v impl.View, order []int, changed []int) map[string][]int {
	results := map[string][]int{"LooseEdges": impl.LooseEdges(g, v)}
	relaxed, _ := impl.RelaxEdge(g, v, order[0])
	run, _ := impl.RunSchedule(g, v, order)
	same, _ := impl.RunSchedule(g, v, nil)
	finished, _, _ := impl.FinishView(g, v)
	stable, _, _ := impl.FinishView(g, finished)
	worked, _, _ := impl.WorkList(g, v, changed)
	idle, _, _ := impl.WorkList(g, v, nil)
	results["RelaxEdge"], results["RunSchedule"], results["RunSchedule of nothing"] = relaxed.Values, run.Values, same.Values
	results["FinishView"], results["FinishView behind it"] = finished.Values, stable.Values
	results["WorkList"], results["WorkList of nothing"] = worked.Values, idle.Values
	results["ValuesOf"], _ = impl.ValuesOf(g, v, order, 0)
	impl.FairRounds(g, order)
	return results
}

// TestWorkListsAtTheSameTime has a node with as many edges as there can be, whose order must not be visible.
func TestWorkListsAtTheSameTime(t *testing.T) {
	random := rand.New(rand.NewSource(57))
	g := randomGraph(random, impl.MaxNodes, 29, 20)
	for node := 1; node < impl.MaxNodes; node++ {
		if _, there := impl.WeightOf(g, 0, node); !there {
			g, _ = impl.PutEdge(g, impl.Edge{From: 0, To: node, Weight: 100})
		}
	}
	for _, k := range allKinds() {
		v := startView(t, g, k.m, 0)
		wanted, count := workedByScans(t, g, v, []int{0})
		var all sync.WaitGroup
		for range 8 {
			all.Add(1)
			go func() {
				defer all.Done()
				for range 50 {
					got, steps, ok := impl.WorkList(g, v, []int{0})
					wantSteps(t, k.name+": WorkList", got, steps, ok, wanted, count)
				}
			}()
		}
		all.Wait()
	}
}

// wantNeverBetter checks that values only become better, and never better than the last one can be.
func wantNeverBetter(t *testing.T, what string, m int, values []int, right int) {
	t.Helper()
	for i, value := range values {
		if impl.IsBetter(m, value, right) || i > 0 && impl.IsBetter(m, values[i-1], value) {
			t.Errorf("%s: the values %v become worse, or better than %d", what, values, right)
		}
	}
}

// TestPromise5 checks that all fair orders reach the right view from the start view, and the same stable view from any other one.
func TestPromise5(t *testing.T) {
	random := rand.New(rand.NewSource(555))
	for range 60 {
		g := randomGraph(random, 1+random.Intn(impl.MaxNodes), random.Intn(impl.MaxEdges+1), 1+random.Intn(impl.MaxWeight))
		for _, k := range allKinds() {
			for i, v := range k.views(t, random, g) {
				what := fmt.Sprintf("%s: %v in %q", k.name, v, impl.FormatGraph(g))
				stable := stableFrom(t, g, v)
				if i < 2 { // the start view and the right one
					wantView(t, what+": ViewOf", stable, true, viewOf(t, g, k.m, v.Source))
				}
				order := fairOrder(random, len(g.Edges), g.Nodes-1)
				rounds, ok := impl.FairRounds(g, order)
				if !ok || len(g.Edges) > 0 && rounds != g.Nodes-1 {
					t.Errorf("%s: the order %v has %d rounds, %v", what, order, rounds, ok)
				}
				got, ok := impl.RunSchedule(g, v, order)
				wantView(t, fmt.Sprintf("%s: the order %v", what, order), got, ok, stable)
				for node := range g.Nodes {
					values, ok := impl.ValuesOf(g, v, order, node)
					wantValue(t, what+": the last one of ValuesOf", values[len(values)-1], ok, stable.Values[node])
					wantNeverBetter(t, what, k.m, values, stable.Values[node])
				}
				wantView(t, what+": any loose edge", relaxAnyLoose(t, random, g, v), true, stable)
				got, _, ok = impl.FinishView(g, v)
				wantView(t, what+": FinishView", got, ok, stable)
				got, _, ok = impl.WorkList(g, v, random.Perm(g.Nodes))
				wantView(t, what+": WorkList", got, ok, stable)
			}
		}
	}
}

func relaxAnyLoose(t *testing.T, random *rand.Rand, g impl.Graph, v impl.View) impl.View {
	t.Helper()
	for loose := impl.LooseEdges(g, v); len(loose) > 0; loose = impl.LooseEdges(g, v) {
		relaxed, ok := impl.RelaxEdge(g, v, loose[random.Intn(len(loose))])
		if !ok || impl.ViewSame(relaxed, v) {
			t.Fatalf("relaxing one of the loose edges %v of %v changes nothing, %v", loose, v, ok)
		}
		v = relaxed
	}
	return v
}

// TestPromise5OfUnevenOrders has orders that have some edges much more often than others, and counts their rounds.
func TestPromise5OfUnevenOrders(t *testing.T) {
	random := rand.New(rand.NewSource(556))
	for range 100 {
		g := randomGraph(random, 2+random.Intn(4), 1+random.Intn(8), 1+random.Intn(30))
		order := randomOrder(random, len(g.Edges), 500)
		rounds, ok := impl.FairRounds(g, order)
		if !ok || rounds < g.Nodes-1 {
			t.Errorf("500 edges of %q have %d rounds, %v", impl.FormatGraph(g), rounds, ok)
		}
		// The shortest part of the order that has as many rounds as are needed.
		needed := 0
		for part := 0; part < g.Nodes-1; needed++ {
			part, _ = impl.FairRounds(g, order[:needed+1])
		}
		for _, k := range allKinds() {
			for source := range g.Nodes {
				got, ok := impl.RunSchedule(g, startOf(k, g.Nodes, source), order[:needed])
				wantView(t, fmt.Sprintf("%s: the order %v from %d in %q", k.name, order[:needed], source, impl.FormatGraph(g)), got, ok, viewOf(t, g, k.m, source))
			}
		}
	}
}

// TestPromise5NeedsEachEdge checks that no order without the only edge to a node reaches it.
func TestPromise5NeedsEachEdge(t *testing.T) {
	random := rand.New(rand.NewSource(557))
	g := row(impl.MaxNodes, 7)
	for left := range g.Edges {
		var order []int
		for len(order) < 500 {
			if edge := random.Intn(len(g.Edges)); edge != left {
				order = append(order, edge)
			}
		}
		rounds, ok := impl.FairRounds(g, order)
		wantValue(t, fmt.Sprintf("the rounds of an order without %d", left), rounds, ok, 0)
		for _, k := range allKinds() {
			got, ok := impl.RunSchedule(g, startView(t, g, k.m, 0), order)
			if !ok || got.Values[left+1] != k.none || impl.ViewSame(got, viewOf(t, g, k.m, 0)) {
				t.Errorf("%s: without the edge %d, %v is reached, %v", k.name, left, got, ok)
			}
			reached := impl.ReachedNodes(g, got)
			wantNumbers(t, fmt.Sprintf("%s: the nodes reached without %d", k.name, left), impl.LooseEdges(g, got), true, reached[len(reached)-1])
		}
	}
}
