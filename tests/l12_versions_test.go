package tests

import (
	"fmt"
	"math"
	"math/rand"
	"slices"
	"testing"

	"loop.example/graphviews/impl"
)

// storeOf has the graph of a text as its base, and fails the test if there is none.
func storeOf(t *testing.T, text string, list ...impl.Change) impl.Store {
	t.Helper()
	return impl.Store{Base: graphOf(t, text), Changes: list}
}

func sameStore(a impl.Store, b impl.Store) bool {
	return impl.GraphSame(a.Base, b.Base) && slices.Equal(a.Changes, b.Changes)
}

func wantStore(t *testing.T, what string, got impl.Store, ok bool, want impl.Store) {
	t.Helper()
	if !ok || !sameStore(got, want) {
		t.Errorf("%s = %v, %v, want %v, true", what, got, ok, want)
	}
}

func wantNoStore(t *testing.T, what string, got impl.Store, ok bool) {
	t.Helper()
	if ok || !sameStore(got, impl.Store{}) {
		t.Errorf("%s = %v, %v, want the zero value, false", what, got, ok)
	}
}

func describeStore(s impl.Store) string {
	return fmt.Sprintf("%q with %v", impl.FormatGraph(s.Base), s.Changes)
}

func copyOfStore(s impl.Store) impl.Store {
	return impl.Store{Base: impl.Graph{Nodes: s.Base.Nodes, Edges: slices.Clone(s.Base.Edges)}, Changes: slices.Clone(s.Changes)}
}

// invalidVersions are no versions of s.
func invalidVersions(s impl.Store) []int {
	return []int{-1, len(s.Changes) + 1, len(s.Changes) + 2, math.MinInt, math.MaxInt}
}

// graphsByWeights are the graphs of all versions of a valid store, made from a map of weights.
func graphsByWeights(s impl.Store) []impl.Graph {
	weights := map[[2]int]int{}
	for _, e := range s.Base.Edges {
		weights[[2]int{e.From, e.To}] = e.Weight
	}
	graphs := []impl.Graph{edgesOf(s.Base.Nodes, weights)}
	for _, c := range s.Changes {
		ends := [2]int{c.Edge.From, c.Edge.To}
		if c.Cut {
			delete(weights, ends)
		} else {
			weights[ends] = c.Edge.Weight
		}
		graphs = append(graphs, edgesOf(s.Base.Nodes, weights))
	}
	return graphs
}

// viewsByScans are the right views of all versions of a valid store.
func viewsByScans(t *testing.T, s impl.Store, m int, source int) []impl.View {
	t.Helper()
	var views []impl.View
	for _, g := range graphsByWeights(s) {
		views = append(views, viewOf(t, g, m, source))
	}
	return views
}

// firstByScans does what the document says of FirstChange with valid arguments.
func firstByScans(views []impl.View, version int) (int, bool) {
	for later, v := range views {
		if later > version && !impl.ViewSame(v, views[version]) {
			return later, true
		}
	}
	return 0, false
}

// randomStore has at most count changes.
func randomStore(random *rand.Rand, nodes int, edges int, count int, weight int) impl.Store {
	g := randomGraph(random, nodes, edges, weight)
	return impl.Store{Base: g, Changes: randomChanges(random, g, count, weight)}
}

// wantVersions checks that a store has the graphs of these versions, and no others.
func wantVersions(t *testing.T, what string, s impl.Store, want []impl.Graph) {
	t.Helper()
	if !impl.StoreValid(s) || len(s.Changes) != len(want)-1 {
		t.Fatalf("%s: %s is not valid, or does not have %d versions", what, describeStore(s), len(want))
	}
	for version, g := range want {
		if got, ok := impl.GraphAt(s, version); !ok || !impl.GraphSame(got, g) {
			t.Errorf("%s: the version %d of %s = %v, %v, want %v, true", what, version, describeStore(s), got, ok, g)
		}
	}
	got, ok := impl.GraphAt(s, len(want))
	wantNoGraph(t, what+": one version more", got, ok)
}

// wantNoVersion checks the results of the functions that take a version.
func wantNoVersion(t *testing.T, what string, s impl.Store, version int) {
	t.Helper()
	what = fmt.Sprintf("%s: the version %d", what, version)
	g, ok := impl.GraphAt(s, version)
	wantNoGraph(t, what+": GraphAt", g, ok)
	got, ok := impl.RollBack(s, version)
	wantNoStore(t, what+": RollBack", got, ok)
	got, ok = impl.Compact(s, version)
	wantNoStore(t, what+": Compact", got, ok)
	for _, k := range allKinds() {
		first, ok := impl.FirstChange(s, k.m, 0, version)
		wantNoValue(t, what+": FirstChange of "+k.name, first, ok)
	}
}

// wantNoVersions checks the results of all functions for a store that is not valid.
func wantNoVersions(t *testing.T, what string, s impl.Store) {
	t.Helper()
	if impl.StoreValid(s) {
		t.Errorf("%s: %s is valid", what, describeStore(s))
	}
	for version := range min(len(s.Changes), maxChanges) + 2 {
		wantNoVersion(t, what, s, version)
	}
	for _, c := range changes(put(0, 1, 1), put(0, 1, 5), cut(0, 1), impl.Change{}) {
		got, ok := impl.Record(s, c)
		wantNoStore(t, what+": Record", got, ok)
	}
	got, ok := impl.SquashStore(s)
	wantNoStore(t, what+": SquashStore", got, ok)
	for _, k := range allKinds() {
		history, ok := impl.HistoryOf(s, k.m, 0, 0)
		wantNoNumbers(t, what+": HistoryOf of "+k.name, history, ok)
	}
}

func TestVersionsExample(t *testing.T) {
	s := storeOf(t, "3 0>1=5", put(1, 2, 7), cut(1, 2))
	wantVersions(t, "the example", s, []impl.Graph{graphOf(t, "3 0>1=5"), graphOf(t, "3 0>1=5 1>2=7"), graphOf(t, "3 0>1=5")})
	history, ok := impl.HistoryOf(s, impl.MeasureLength, 0, 2)
	wantNumbers(t, "the history of the node 2", history, ok, 100000, 12, 100000)
	history, ok = impl.HistoryOf(s, impl.MeasureLength, 0, 1)
	wantNumbers(t, "the history of the node 1", history, ok, 5, 5, 5)
	for _, version := range invalidVersions(s) {
		wantNoVersion(t, "the example", s, version)
	}
	squashed, ok := impl.SquashStore(s)
	wantStore(t, "SquashStore of the example", squashed, ok, storeOf(t, "3 0>1=5"))
}

// versionsCase is a store, with the texts of its versions and with the changes that are left of it when it is squashed.
type versionsCase struct {
	what     string
	text     string
	list     []impl.Change
	versions []string
	squashed []impl.Change
}

func versionsCases() []versionsCase {
	text := "3 0>1=5 1>2=7"
	return []versionsCase{
		{"a store without changes", text, nil, []string{text}, nil},
		{"a store without changes, of one node", "1", changes(), []string{"1"}, nil},
		{"one put", text, changes(put(0, 2, 9)), []string{text, "3 0>1=5 0>2=9 1>2=7"}, changes(put(0, 2, 9))},
		{"one cut", text, changes(cut(0, 1)), []string{text, "3 1>2=7"}, changes(cut(0, 1))},
		{"another weight", text, changes(put(1, 2, 8)), []string{text, "3 0>1=5 1>2=8"}, changes(put(1, 2, 8))},
		{"a change that changes nothing", text, changes(put(1, 2, 7)), []string{text, text}, nil},
		{"several of them", text, changes(put(1, 2, 7), put(0, 1, 5), put(1, 2, 7)), []string{text, text, text, text}, nil},
		{"a change and back", text, changes(cut(0, 1), put(0, 1, 5)), []string{text, "3 1>2=7", text}, nil},
		{"a change and back twice", text, changes(cut(0, 1), put(0, 1, 5), cut(0, 1), put(0, 1, 5)), []string{text, "3 1>2=7", text, "3 1>2=7", text}, nil},
		{"an edge that only the first change has", "2", changes(put(0, 1, 1), put(0, 1, 2), cut(0, 1), put(0, 1, 3)), []string{"2", "2 0>1=1", "2 0>1=2", "2", "2 0>1=3"}, changes(put(0, 1, 3))},
		{"several of both", text, changes(put(2, 0, 1), cut(1, 2), put(0, 2, 4), put(0, 1, 6), cut(2, 0)),
			[]string{text, "3 0>1=5 1>2=7 2>0=1", "3 0>1=5 2>0=1", "3 0>1=5 0>2=4 2>0=1", "3 0>1=6 0>2=4 2>0=1", "3 0>1=6 0>2=4"},
			changes(cut(1, 2), put(0, 1, 6), put(0, 2, 4))},
		{"all edges cut", text, changes(cut(1, 2), cut(0, 1)), []string{text, "3 0>1=5", "3"}, changes(cut(0, 1), cut(1, 2))},
	}
}

func TestVersions(t *testing.T) {
	for _, c := range versionsCases() {
		s := storeOf(t, c.text, c.list...)
		var graphs []impl.Graph
		for _, text := range c.versions {
			graphs = append(graphs, graphOf(t, text))
		}
		wantVersions(t, c.what, s, graphs)
		for _, version := range invalidVersions(s) {
			wantNoVersion(t, c.what, s, version)
		}
		for version, text := range c.versions {
			what := fmt.Sprintf("%s, the version %d: ", c.what, version)
			got, ok := impl.RollBack(s, version)
			wantStore(t, what+"RollBack", got, ok, storeOf(t, c.text, c.list[:version]...))
			got, ok = impl.Compact(s, version)
			wantStore(t, what+"Compact", got, ok, storeOf(t, text, c.list[version:]...))
		}
		got, ok := impl.SquashStore(s)
		wantStore(t, c.what+": SquashStore", got, ok, storeOf(t, c.text, c.squashed...))
	}
}

func TestRecord(t *testing.T) {
	for _, c := range versionsCases() {
		s := storeOf(t, c.text)
		for count, change := range c.list {
			next, ok := impl.Record(s, change)
			wantStore(t, fmt.Sprintf("%s: the change %d", c.what, count), next, ok, storeOf(t, c.text, c.list[:count+1]...))
			s = next
		}
		for _, bad := range changesThatAreNone() {
			got, ok := impl.Record(storeOf(t, "3 0>1=5", put(1, 2, 7)), bad)
			wantNoStore(t, fmt.Sprintf("Record of %v", bad), got, ok)
		}
	}
	// Whether a change can be made depends on the last version, and not on the base.
	s := storeOf(t, "3 0>1=5", cut(0, 1), put(1, 2, 7))
	got, ok := impl.Record(s, cut(0, 1))
	wantNoStore(t, "an edge of the base that is cut twice", got, ok)
	got, ok = impl.Record(s, cut(1, 2))
	wantStore(t, "an edge that is put and cut", got, ok, storeOf(t, "3 0>1=5", cut(0, 1), put(1, 2, 7), cut(1, 2)))
	got, ok = impl.Record(s, impl.Change{Cut: true, Edge: impl.Edge{From: 1, To: 2, Weight: 7}})
	wantNoStore(t, "a cut with the weight of the edge", got, ok)
}

// historyOfEachKind is a store, and the values of its last node from 0 in all versions for each kind.
type historyOfEachKind struct {
	what   string
	text   string
	list   []impl.Change
	values [5][]int
}

func TestHistoryOf(t *testing.T) {
	cases := []historyOfEachKind{
		{"a store without changes", "3 0>1=5 1>2=7", nil, [5][]int{{12}, {5}, {7}, {1}, {2}}},
		{"a store without changes and without edges", "2", nil, [5][]int{{100000}, {0}, {100000}, {0}, {100000}}},
		{"the source", "1", nil, [5][]int{{0}, {100000}, {0}, {1}, {0}}},
		{"a node that is never reached", "3 0>1=5", changes(put(2, 1, 1), put(1, 0, 1)), [5][]int{{100000, 100000, 100000}, {0, 0, 0}, {100000, 100000, 100000}, {0, 0, 0}, {100000, 100000, 100000}}},
		{"a node that is reached at last", "3", changes(put(1, 2, 7), put(0, 1, 5)), [5][]int{{100000, 100000, 12}, {0, 0, 5}, {100000, 100000, 7}, {0, 0, 1}, {100000, 100000, 2}}},
		{"a view that changes and comes back", "3 0>1=5 1>2=7", changes(cut(0, 1), put(0, 1, 5)), [5][]int{{12, 100000, 12}, {5, 0, 5}, {7, 100000, 7}, {1, 0, 1}, {2, 100000, 2}}},
		{"a view that comes back with another graph", "3 0>1=5 1>2=7", changes(put(0, 2, 3), put(0, 2, 12)), [5][]int{{12, 3, 12}, {5, 5, 12}, {7, 3, 7}, {1, 1, 1}, {2, 1, 1}}},
		{"other weights", "2 0>1=5", changes(put(0, 1, 9), put(0, 1, 9), put(0, 1, 1)), [5][]int{{5, 9, 9, 1}, {5, 9, 9, 1}, {5, 9, 9, 1}, {1, 1, 1, 1}, {1, 1, 1, 1}}},
		{"a cycle that is cut off", "3 0>1=5 1>2=9 2>1=9", changes(cut(0, 1), put(0, 2, 4)), [5][]int{{14, 100000, 4}, {5, 0, 4}, {9, 100000, 4}, {1, 0, 1}, {2, 100000, 1}}},
	}
	for _, c := range cases {
		s := storeOf(t, c.text, c.list...)
		for i, k := range allKinds() {
			history, ok := impl.HistoryOf(s, k.m, 0, s.Base.Nodes-1)
			wantNumbers(t, k.name+" of "+c.what, history, ok, c.values[i]...)
		}
	}
	// From another source.
	s := storeOf(t, "3 0>1=5 1>2=7", cut(1, 2), put(1, 2, 3), put(2, 1, 1))
	for node, want := range [][]int{{100000, 100000, 100000, 100000}, {0, 0, 0, 0}, {7, 100000, 3, 3}} {
		history, ok := impl.HistoryOf(s, impl.MeasureLength, 1, node)
		wantNumbers(t, fmt.Sprintf("the history of %d from 1", node), history, ok, want...)
	}
	for node, want := range [][]int{{100000, 100000, 100000, 100000}, {100000, 100000, 100000, 1}, {0, 0, 0, 0}} {
		history, ok := impl.HistoryOf(s, impl.MeasureLength, 2, node)
		wantNumbers(t, fmt.Sprintf("the history of %d from 2", node), history, ok, want...)
	}
}

// none is what wantFirsts takes for a version behind which no view is another one.
const none = -1

func wantFirsts(t *testing.T, what string, s impl.Store, m int, source int, want ...int) {
	t.Helper()
	for version, first := range want {
		got, ok := impl.FirstChange(s, m, source, version)
		what := fmt.Sprintf("%s: the first change from %d behind the version %d", what, source, version)
		if first == none {
			wantNoValue(t, what, got, ok)
		} else {
			wantValue(t, what, got, ok, first)
		}
	}
	if len(want) != len(s.Changes)+1 {
		t.Errorf("%s: %d versions of %d are checked", what, len(want), len(s.Changes)+1)
	}
}

func TestFirstChange(t *testing.T) {
	text := "3 0>1=5 1>2=7"
	cases := []struct {
		what string
		s    impl.Store
		m    int
		want []int
	}{
		{"a store without changes", storeOf(t, text), impl.MeasureLength, []int{none}},
		{"a store without changes, of one node", storeOf(t, "1"), impl.MeasureReach, []int{none}},
		{"one change", storeOf(t, text, cut(1, 2)), impl.MeasureLength, []int{1, none}},
		{"one change that changes no value", storeOf(t, text, put(0, 2, 12)), impl.MeasureLength, []int{none, none}},
		{"one change that changes no graph", storeOf(t, text, put(0, 1, 5)), impl.MeasureLength, []int{none, none}},
		{"a view that changes and comes back", storeOf(t, text, cut(0, 1), put(0, 1, 5)), impl.MeasureLength, []int{1, 2, none}},
		{"a view that comes back later", storeOf(t, text, cut(0, 1), cut(1, 2), put(1, 2, 7), put(0, 1, 5)), impl.MeasureLength, []int{1, 4, 4, 4, none}},
		{"a view that comes back and changes again", storeOf(t, text, cut(0, 1), put(0, 1, 5), put(0, 1, 4)), impl.MeasureLength, []int{1, 2, 3, none}},
		{"a view that comes back with another graph", storeOf(t, text, put(0, 2, 3), put(0, 2, 12), put(0, 2, 13)), impl.MeasureLength, []int{1, 2, none, none}},
		{"a view that changes late", storeOf(t, text, put(2, 0, 1), put(2, 1, 1), put(0, 2, 20), put(0, 2, 11)), impl.MeasureLength, []int{4, 4, 4, 4, none}},
		{"a view that changes early", storeOf(t, text, put(0, 2, 11), put(2, 0, 1), put(2, 1, 1)), impl.MeasureLength, []int{1, none, none, none}},
		{"each view another one", storeOf(t, text, put(0, 1, 6), put(0, 1, 7), put(0, 1, 8)), impl.MeasureLength, []int{1, 2, 3, none}},
		{"a weight that only counts", storeOf(t, text, put(0, 1, 6), put(1, 2, 999), put(0, 2, 1)), impl.MeasureReach, []int{none, none, none, none}},
		{"a weight that only counts, of hops", storeOf(t, text, put(0, 1, 6), put(1, 2, 999), put(0, 2, 1)), impl.MeasureHops, []int{3, 3, 3, none}},
		{"the lesser weight", storeOf(t, text, put(1, 2, 9), put(1, 2, 5), put(1, 2, 4)), impl.MeasureWidth, []int{3, 3, 3, none}},
		{"the greater weight", storeOf(t, text, put(0, 1, 7), put(0, 1, 3), put(1, 2, 8)), impl.MeasurePeak, []int{1, 2, 3, none}},
	}
	for _, c := range cases {
		wantFirsts(t, c.what, c.s, c.m, 0, c.want...)
	}
	// The values of all nodes count, and only from the source.
	s := storeOf(t, "4 0>1=5 1>2=7", put(2, 3, 1), put(0, 1, 6), cut(1, 2), cut(2, 3))
	for source, want := range [][]int{{1, 2, 3, none, none}, {1, 3, 3, none, none}, {1, 4, 4, 4, none}, {none, none, none, none, none}} {
		wantFirsts(t, "each source", s, impl.MeasureLength, source, want...)
	}
}

// wantVersionsLikeScans compares all functions with transcriptions of the document for a valid store.
func wantVersionsLikeScans(t *testing.T, random *rand.Rand, s impl.Store) {
	t.Helper()
	what, graphs := describeStore(s), graphsByWeights(s)
	last := graphs[len(graphs)-1]
	for version, g := range graphs {
		got, ok := impl.GraphAt(s, version)
		wantGraph(t, fmt.Sprintf("the version %d of %s", version, what), got, ok, impl.FormatGraph(g))
		rolled, ok := impl.RollBack(s, version)
		wantStore(t, fmt.Sprintf("%s, rolled back to %d", what, version), rolled, ok, impl.Store{Base: s.Base, Changes: s.Changes[:version]})
		compact, ok := impl.Compact(s, version)
		wantStore(t, fmt.Sprintf("%s, compact at %d", what, version), compact, ok, impl.Store{Base: g, Changes: s.Changes[version:]})
	}
	squashed, ok := impl.SquashStore(s)
	wantStore(t, what+", squashed", squashed, ok, impl.Store{Base: s.Base, Changes: diffByScans(s.Base, last)})
	for _, k := range allKinds() {
		source := random.Intn(s.Base.Nodes)
		views := viewsByScans(t, s, k.m, source)
		for node := range s.Base.Nodes {
			var want []int
			for _, v := range views {
				want = append(want, v.Values[node])
			}
			history, ok := impl.HistoryOf(s, k.m, source, node)
			wantNumbers(t, fmt.Sprintf("%s of %s: the history of %d from %d", k.name, what, node, source), history, ok, want...)
		}
		for version := range views {
			first, ok := impl.FirstChange(s, k.m, source, version)
			want, found := firstByScans(views, version)
			if ok != found || first != want {
				t.Errorf("%s of %s: the first change from %d behind %d = %d, %v, want %d, %v", k.name, what, source, version, first, ok, want, found)
			}
		}
	}
}

func TestVersionsLikeScans(t *testing.T) {
	random := rand.New(rand.NewSource(120))
	for range 80 {
		nodes, weight := 1+random.Intn(impl.MaxNodes), []int{1, 3, impl.MaxWeight}[random.Intn(3)]
		s := randomStore(random, nodes, random.Intn(impl.MaxEdges+1), random.Intn(12), weight)
		wantVersionsLikeScans(t, random, s)
		c := put(random.Intn(nodes+2)-1, random.Intn(nodes+1), random.Intn(weight+2))
		if random.Intn(2) == 0 {
			c = cut(c.Edge.From, c.Edge.To)
		}
		longer := impl.Store{Base: s.Base, Changes: append(slices.Clone(s.Changes), c)}
		got, ok := impl.Record(s, c)
		if _, fine := appliedByScans(s.Base, longer.Changes); fine {
			wantStore(t, fmt.Sprintf("Record of %v to %s", c, describeStore(s)), got, ok, longer)
		} else {
			wantNoStore(t, fmt.Sprintf("Record of %v to %s", c, describeStore(s)), got, ok)
			wantNoVersions(t, "a change that cannot be made", longer)
		}
	}
}

func TestInvalidStores(t *testing.T) {
	for name, g := range invalidGraphs() {
		for _, list := range [][]impl.Change{nil, changes(put(0, 1, 5)), changes(cut(0, 1)), changes(put(0, 2, 1), cut(0, 2)), changes(impl.Change{})} {
			wantNoVersions(t, name, impl.Store{Base: g, Changes: list})
		}
	}
	good := changes(put(0, 2, 9), put(0, 1, 4), cut(0, 2), put(2, 0, 1))
	for _, bad := range changesThatAreNone() {
		// The versions in front of the change are no versions either.
		for place := range len(good) + 1 {
			list := slices.Insert(slices.Clone(good), place, bad)
			wantNoVersions(t, fmt.Sprintf("%v at %d", bad, place), storeOf(t, "3 0>1=5 1>2=7", list...))
		}
	}
	wantNoVersions(t, "an edge that is cut twice", storeOf(t, "3 0>1=5 1>2=7", cut(0, 1), cut(0, 1)))
	wantNoVersions(t, "the zero value", impl.Store{})
	wantNoVersions(t, "the zero value with a change", impl.Store{Changes: changes(put(0, 1, 1))})
}

// wantNothingInVersions checks that there are no views from source in the versions of a store.
func wantNothingInVersions(t *testing.T, what string, g impl.Graph, m int, source int) {
	t.Helper()
	lists := [][]impl.Change{nil}
	if impl.GraphValid(g) {
		lists = append(lists, changes(put(0, 1, 1), cut(0, 1), put(0, 1, 3)))
	}
	for _, list := range lists {
		s := impl.Store{Base: g, Changes: list}
		for node := range 3 {
			history, ok := impl.HistoryOf(s, m, source, node)
			wantNoNumbers(t, what+": HistoryOf", history, ok)
		}
		for version := range len(list) + 1 {
			first, ok := impl.FirstChange(s, m, source, version)
			wantNoValue(t, what+": FirstChange", first, ok)
		}
	}
}

func TestHistoriesOfInvalidArguments(t *testing.T) {
	checkInvalidStarts(t, wantNothingInVersions)
	s := storeOf(t, "3 0>1=5 1>2=7", cut(0, 1), put(0, 1, 5))
	for _, k := range allKinds() {
		for _, node := range []int{-1, 3, 12, math.MinInt, math.MaxInt} {
			history, ok := impl.HistoryOf(s, k.m, 0, node)
			wantNoNumbers(t, fmt.Sprintf("%s: HistoryOf the node %d", k.name, node), history, ok)
			history, ok = impl.HistoryOf(s, k.m, node, node)
			wantNoNumbers(t, fmt.Sprintf("%s: HistoryOf the node %d from itself", k.name, node), history, ok)
		}
	}
	for _, version := range invalidVersions(s) {
		wantNoVersion(t, "three versions", s, version)
	}
}

func TestNumbersOfVersions(t *testing.T) {
	text := "3 0>1=5 1>2=7"
	same := slices.Repeat(changes(put(0, 1, 5)), maxChanges+1)
	back := slices.Repeat(changes(cut(0, 1), put(0, 1, 5)), maxChanges)
	for _, list := range [][]impl.Change{same, back} {
		most, more := storeOf(t, text, list[:maxChanges]...), storeOf(t, text, list[:maxChanges+1]...)
		wantVersionsLikeScans(t, rand.New(rand.NewSource(121)), most)
		for _, version := range invalidVersions(most) {
			wantNoVersion(t, "the greatest number of changes", most, version)
		}
		wantNoVersions(t, "one change too many", more)
		got, ok := impl.Record(most, list[maxChanges])
		wantNoStore(t, "one change too many", got, ok)
		almost := storeOf(t, text, list[:maxChanges-1]...)
		got, ok = impl.Record(almost, list[maxChanges-1])
		wantStore(t, "as many changes as there can be", got, ok, most)
		// Behind compaction and rolling back, there is place for a change again.
		compact, ok := impl.Compact(most, 1)
		wantStore(t, "compact at 1", compact, ok, impl.Store{Base: applied(t, most.Base, list[:1]), Changes: list[1:maxChanges]})
		got, ok = impl.Record(compact, list[maxChanges])
		wantStore(t, "one change more, behind compaction", got, ok, impl.Store{Base: compact.Base, Changes: list[1 : maxChanges+1]})
		rolled, ok := impl.RollBack(most, maxChanges-1)
		wantStore(t, "rolled back by one change", rolled, ok, almost)
	}
	wantNoVersions(t, "very many changes", storeOf(t, text, slices.Repeat(same, 1000)...))
	// As many net changes as there can be.
	full := firstEdges(impl.MaxNodes, 60)
	s := impl.Store{Base: impl.Graph{Nodes: impl.MaxNodes, Edges: full[:30]}}
	for i := range 30 {
		s.Changes = append(s.Changes, cut(full[i].From, full[i].To))
	}
	for i := 30; i < 60; i++ {
		s.Changes = append(s.Changes, impl.Change{Edge: full[i]})
	}
	squashed, ok := impl.SquashStore(s)
	wantStore(t, "the most net changes", squashed, ok, s)
}

func TestVersionsOfFullGraphs(t *testing.T) {
	random := rand.New(rand.NewSource(122))
	full := greatestGraph()
	last := full.Edges[impl.MaxEdges-1]
	wantVersionsLikeScans(t, random, impl.Store{Base: full, Changes: changes(cut(last.From, last.To), put(11, 10, impl.MaxWeight), put(0, 1, 1), cut(11, 10), impl.Change{Edge: last})})
	for _, list := range [][]impl.Change{changes(put(11, 10, 1)), changes(cut(0, 1), put(11, 10, 1), put(0, 1, 1)), changes(put(11, 10, 1), cut(11, 10)), changes(put(0, 1, impl.MaxWeight+1)), changes(put(0, impl.MaxNodes, 1))} {
		wantNoVersions(t, "one past a limit", impl.Store{Base: full, Changes: list})
		got, ok := impl.Record(impl.Store{Base: full, Changes: list[:len(list)-1]}, list[len(list)-1])
		wantNoStore(t, "Record past a limit", got, ok)
	}
	for _, nodes := range []int{0, impl.MaxNodes + 1} {
		wantNoVersions(t, fmt.Sprintf("%d nodes", nodes), impl.Store{Base: impl.Graph{Nodes: nodes}})
	}
	for nodes := 1; nodes <= impl.MaxNodes; nodes++ {
		s := impl.Store{Base: impl.Graph{Nodes: nodes}}
		wantVersionsLikeScans(t, random, s)
		for _, k := range allKinds() {
			history, ok := impl.HistoryOf(s, k.m, nodes-1, nodes-1)
			wantNumbers(t, fmt.Sprintf("%s of the last one of %d nodes", k.name, nodes), history, ok, k.empty)
			history, ok = impl.HistoryOf(s, k.m, nodes-1, nodes)
			wantNoNumbers(t, fmt.Sprintf("%s of one past %d nodes", k.name, nodes), history, ok)
			history, ok = impl.HistoryOf(s, k.m, nodes, nodes-1)
			wantNoNumbers(t, fmt.Sprintf("%s from one past %d nodes", k.name, nodes), history, ok)
		}
	}
}

// storeResultsOf are all stores that come from a store, and the graphs of its versions, as stores without changes.
func storeResultsOf(s impl.Store, c impl.Change) []impl.Store {
	recorded, _ := impl.Record(s, c)
	squashed, _ := impl.SquashStore(s)
	results := []impl.Store{recorded, squashed}
	for version := range len(s.Changes) + 1 {
		rolled, _ := impl.RollBack(s, version)
		compact, _ := impl.Compact(s, version)
		g, _ := impl.GraphAt(s, version)
		results = append(results, rolled, compact, impl.Store{Base: g})
	}
	return results
}

func overwriteStore(s impl.Store) {
	overwrite(impl.Kept{Graph: s.Base})
	for place := range s.Changes[:cap(s.Changes)] {
		s.Changes[:cap(s.Changes)][place] = put(77, 77, 77)
	}
}

func TestVersionArgumentsAreKept(t *testing.T) {
	// What is behind the lengths tells whether a function writes there.
	edges := firstEdges(4, 12)
	long := changes(cut(0, 1), put(3, 0, 1), put(0, 2, 500), cut(1, 2), put(9, 9, 9), put(9, 9, 9))
	beforeChanges := slices.Clone(long)
	s := impl.Store{Base: impl.Graph{Nodes: 4, Edges: edges[:9]}, Changes: long[:4]}
	results, copies := storeResultsOf(s, put(0, 1, 8)), storeResultsOf(s, put(0, 1, 8))
	for i, got := range results {
		if got.Base.Nodes != 4 {
			t.Fatalf("the store %d is %v", i, got)
		}
		wantStore(t, fmt.Sprintf("the store %d behind changes of the others", i), got, true, copies[i])
		overwriteStore(got)
	}
	for _, k := range allKinds() {
		history, _ := impl.HistoryOf(s, k.m, 0, 2)
		before := slices.Clone(history)
		other, _ := impl.HistoryOf(s, k.m, 0, 2)
		overwrite(impl.Kept{Parents: other})
		wantNumbers(t, k.name+": the history", history, len(history) == 5, before...)
		impl.FirstChange(s, k.m, 0, 0)
	}
	if !slices.Equal(edges, firstEdges(4, 12)) || !slices.Equal(long, beforeChanges) {
		t.Errorf("the arguments became %v and %v", edges, long)
	}
	for i, got := range storeResultsOf(s, put(0, 1, 8)) {
		wantStore(t, fmt.Sprintf("the store %d behind changes of results", i), got, true, copies[i])
	}
}

// wantGraphsOfVersions checks the versions of a store, and those of all stores that come from it, against maps of weights.
func wantGraphsOfVersions(t *testing.T, s impl.Store) {
	t.Helper()
	graphs := graphsByWeights(s)
	last := len(graphs) - 1
	wantVersions(t, "the store", s, graphs)
	recorded := impl.Store{Base: s.Base}
	for version, g := range graphs {
		wantVersions(t, "recorded so far", recorded, graphs[:version+1])
		rolled, ok := impl.RollBack(s, version)
		wantStore(t, "rolled back to what was recorded so far", rolled, ok, recorded)
		compact, ok := impl.Compact(s, version)
		wantGraph(t, "the base behind compaction", compact.Base, ok, impl.FormatGraph(g))
		wantVersions(t, "behind compaction", compact, graphs[version:])
		if version < last {
			recorded, _ = impl.Record(recorded, s.Changes[version])
		}
	}
	squashed, ok := impl.SquashStore(s)
	if !ok || len(squashed.Changes) > len(s.Changes) {
		t.Fatalf("%s, squashed = %v, %v", describeStore(s), squashed, ok)
	}
	wantGraph(t, "the first version, squashed", squashed.Base, ok, impl.FormatGraph(graphs[0]))
	got, ok := impl.GraphAt(squashed, len(squashed.Changes))
	wantGraph(t, "the last version, squashed", got, ok, impl.FormatGraph(graphs[last]))
}

// wantSameVersions checks that it does not matter in which order a store is compacted, rolled back and gets a change.
func wantSameVersions(t *testing.T, random *rand.Rand, s impl.Store) {
	t.Helper()
	what := describeStore(s)
	first, second := random.Intn(len(s.Changes)+1), random.Intn(len(s.Changes)+1)
	low, high := min(first, second), max(first, second)
	compact, _ := impl.Compact(s, low)
	twice, ok := impl.Compact(compact, high-low)
	once, fine := impl.Compact(s, high)
	wantStore(t, fmt.Sprintf("%s, compact at %d and %d", what, low, high), twice, ok && fine, once)
	rolled, _ := impl.RollBack(s, high)
	end, ok := impl.Compact(rolled, low)
	other, fine := impl.RollBack(compact, high-low)
	wantStore(t, fmt.Sprintf("%s, from %d to %d", what, low, high), end, ok && fine, other)
	if c, ok := randomChange(random, graphsByWeights(s)[len(s.Changes)], 3); ok {
		longer, ok := impl.Record(s, c)
		behind, fine := impl.Record(compact, c)
		if low > 0 || len(s.Changes) < maxChanges {
			wantVersions(t, "a change behind compaction", behind, append(graphsByWeights(compact), applied(t, graphsByWeights(s)[len(s.Changes)], changes(c))))
		}
		if len(s.Changes) < maxChanges {
			again, good := impl.Compact(longer, low)
			wantStore(t, fmt.Sprintf("%s, compact at %d with %v", what, low, c), again, ok && fine && good, behind)
		}
	}
}

func TestPromise12(t *testing.T) {
	random := rand.New(rand.NewSource(12))
	for range 60 {
		nodes, weight := 1+random.Intn(impl.MaxNodes), []int{1, 3, impl.MaxWeight}[random.Intn(3)]
		s := randomStore(random, nodes, random.Intn(impl.MaxEdges+1), random.Intn(25), weight)
		wantGraphsOfVersions(t, s)
		for range 5 {
			wantSameVersions(t, random, s)
		}
	}
	g := randomGraph(random, 9, impl.MaxEdges, 3)
	s := impl.Store{Base: g, Changes: changesOfFullGraph(random, g, maxChanges)}
	wantGraphsOfVersions(t, s)
	wantSameVersions(t, random, s)
}

// TestPromise12OfHistories compares the histories of nodes with all paths, also behind compaction.
func TestPromise12OfHistories(t *testing.T) {
	random := rand.New(rand.NewSource(1212))
	for range 100 {
		nodes, weight := 1+random.Intn(5), 1+random.Intn(9)
		s := randomStore(random, nodes, random.Intn(2*nodes), random.Intn(9), weight)
		version := random.Intn(len(s.Changes) + 1)
		compact, ok := impl.Compact(s, version)
		rolled, fine := impl.RollBack(s, version)
		if !ok || !fine {
			t.Fatalf("%s has no version %d", describeStore(s), version)
		}
		for _, k := range allKinds() {
			source := random.Intn(nodes)
			want := make([][]int, nodes)
			for _, g := range graphsByWeights(s) {
				for node, value := range k.bestByPaths(t, g, source) {
					want[node] = append(want[node], value)
				}
			}
			for node := range nodes {
				what := fmt.Sprintf("%s of %s: the history of %d from %d", k.name, describeStore(s), node, source)
				history, ok := impl.HistoryOf(s, k.m, source, node)
				wantNumbers(t, what, history, ok, want[node]...)
				history, ok = impl.HistoryOf(compact, k.m, source, node)
				wantNumbers(t, what+" behind compaction", history, ok, want[node][version:]...)
				history, ok = impl.HistoryOf(rolled, k.m, source, node)
				wantNumbers(t, what+", rolled back", history, ok, want[node][:version+1]...)
			}
		}
	}
}

// TestPromise12InSmallGraphs makes any three changes to all graphs of two nodes, and any two to all graphs of three nodes with the weight 1.
func TestPromise12InSmallGraphs(t *testing.T) {
	for _, size := range []struct{ nodes, count, weight int }{{2, 3, 2}, {3, 2, 1}} {
		edges := firstEdges(size.nodes, size.nodes*size.nodes)
		var single []impl.Change
		for _, e := range edges {
			single = append(single, put(e.From, e.To, 1), put(e.From, e.To, 2), cut(e.From, e.To))
		}
		for _, g := range allGraphs(size.nodes, edges, size.weight) {
			for _, places := range allLists(size.count, 0, len(single)-1) {
				s := impl.Store{Base: g}
				for _, place := range places {
					s.Changes = append(s.Changes, single[place])
				}
				if _, ok := appliedByScans(g, s.Changes); ok {
					wantGraphsOfVersions(t, s)
				} else if impl.StoreValid(s) {
					t.Errorf("%s is valid", describeStore(s))
				}
			}
		}
	}
}
