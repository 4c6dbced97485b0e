package tests

import (
	"math"
	"slices"
	"testing"

	"loop.example/graphviews/impl"
)

// kindOfMeasures is a row of the table of chapter 1.
type kindOfMeasures struct {
	name   string
	m      int
	none   int
	empty  int
	most   int
	edge40 int
}

func allKinds() []kindOfMeasures {
	return []kindOfMeasures{
		{"length", impl.MeasureLength, 100000, 0, 100000, 40},
		{"width", impl.MeasureWidth, 0, 100000, 100000, 40},
		{"peak", impl.MeasurePeak, 100000, 0, 100000, 40},
		{"reach", impl.MeasureReach, 0, 1, 1, 1},
		{"hops", impl.MeasureHops, 100000, 0, 100000, 1},
	}
}

func invalidKinds() []int {
	return []int{0, 6, -1, math.MinInt, math.MaxInt}
}

func (k kindOfMeasures) invalidValues() []int {
	return []int{-1, k.most + 1, math.MinInt, math.MaxInt}
}

// someValues are valid measures of the kind, in ascending order, with the limits and their neighbours among them.
func (k kindOfMeasures) someValues() []int {
	if k.most == 1 {
		return []int{0, 1}
	}
	return []int{0, 1, 2, 999, 1000, 33333, 49999, 50000, 50001, 99999, 100000}
}

func wantValue(t *testing.T, what string, got int, ok bool, want int) {
	t.Helper()
	if !ok || got != want {
		t.Errorf("%s = %d, %v, want %d, true", what, got, ok, want)
	}
}

func wantNoValue(t *testing.T, what string, got int, ok bool) {
	t.Helper()
	if ok || got != 0 {
		t.Errorf("%s = %d, %v, want 0, false", what, got, ok)
	}
}

func repeatedWeight(weight int, count int) []int {
	return slices.Repeat([]int{weight}, count)
}

func TestMeasureConstants(t *testing.T) {
	kinds := []int{impl.MeasureLength, impl.MeasureWidth, impl.MeasurePeak, impl.MeasureReach, impl.MeasureHops}
	if !slices.Equal(kinds, []int{1, 2, 3, 4, 5}) {
		t.Errorf("the kinds are %v", kinds)
	}
	if impl.MaxWeight != 999 || impl.MaxMeasure != 100000 {
		t.Errorf("MaxWeight = %d, MaxMeasure = %d", impl.MaxWeight, impl.MaxMeasure)
	}
}

func TestMeasureExample(t *testing.T) {
	want := map[int]int{impl.MeasureLength: 15, impl.MeasureWidth: 3, impl.MeasurePeak: 7, impl.MeasureReach: 1, impl.MeasureHops: 3}
	for _, k := range allKinds() {
		got, ok := impl.PathMeasure(k.m, []int{5, 3, 7})
		wantValue(t, k.name, got, ok, want[k.m])
	}
}

func TestMeasureValid(t *testing.T) {
	for _, k := range allKinds() {
		if !impl.MeasureValid(k.m) {
			t.Errorf("the kind %s is not valid", k.name)
		}
	}
	for _, m := range invalidKinds() {
		if impl.MeasureValid(m) {
			t.Errorf("the kind %d is valid", m)
		}
	}
}

func TestValueValid(t *testing.T) {
	for _, k := range allKinds() {
		for _, v := range k.someValues() {
			if !impl.ValueValid(k.m, v) {
				t.Errorf("%s: %d is not valid", k.name, v)
			}
		}
		for _, v := range k.invalidValues() {
			if impl.ValueValid(k.m, v) {
				t.Errorf("%s: %d is valid", k.name, v)
			}
		}
	}
	for _, m := range invalidKinds() {
		if impl.ValueValid(m, 0) || impl.ValueValid(m, 1) {
			t.Errorf("the kind %d has a valid value", m)
		}
	}
}

func TestNoPathAndEmptyPath(t *testing.T) {
	for _, k := range allKinds() {
		none, ok := impl.NoPath(k.m)
		wantValue(t, k.name+": NoPath", none, ok, k.none)
		empty, ok := impl.EmptyPath(k.m)
		wantValue(t, k.name+": EmptyPath", empty, ok, k.empty)
	}
	for _, m := range invalidKinds() {
		none, ok := impl.NoPath(m)
		wantNoValue(t, "NoPath", none, ok)
		empty, ok := impl.EmptyPath(m)
		wantNoValue(t, "EmptyPath", empty, ok)
	}
}

func TestEdgeMeasure(t *testing.T) {
	for _, k := range allKinds() {
		got, ok := impl.EdgeMeasure(k.m, 40)
		wantValue(t, k.name+": an edge of 40", got, ok, k.edge40)
		for _, weight := range []int{1, impl.MaxWeight} {
			want := weight
			if k.edge40 == 1 {
				want = 1
			}
			got, ok := impl.EdgeMeasure(k.m, weight)
			wantValue(t, k.name+": an edge at a limit", got, ok, want)
		}
		for _, weight := range []int{0, -1, impl.MaxWeight + 1, math.MinInt, math.MaxInt} {
			got, ok := impl.EdgeMeasure(k.m, weight)
			wantNoValue(t, k.name+": an edge without a weight", got, ok)
		}
	}
	for _, m := range invalidKinds() {
		got, ok := impl.EdgeMeasure(m, 40)
		wantNoValue(t, "an edge of no kind", got, ok)
	}
}

func TestBetterOfAndIsBetter(t *testing.T) {
	for _, k := range allKinds() {
		values := k.someValues()
		if k.empty == 0 {
			slices.Reverse(values)
		}
		for i, a := range values {
			for j, b := range values {
				if got := impl.IsBetter(k.m, a, b); got != (i > j) {
					t.Errorf("%s: IsBetter(%d, %d) = %v", k.name, a, b, got)
				}
				got, ok := impl.BetterOf(k.m, a, b)
				wantValue(t, k.name+": BetterOf", got, ok, values[max(i, j)])
			}
		}
	}
}

func TestExtend(t *testing.T) {
	for _, k := range allKinds() {
		for _, a := range k.someValues() {
			for _, b := range k.someValues() {
				want := map[int]int{
					impl.MeasureLength: min(a+b, 100000),
					impl.MeasureWidth:  min(a, b),
					impl.MeasurePeak:   max(a, b),
					impl.MeasureReach:  a * b,
					impl.MeasureHops:   min(a+b, 100000),
				}
				got, ok := impl.Extend(k.m, a, b)
				wantValue(t, k.name+": Extend", got, ok, want[k.m])
			}
		}
	}
}

func TestNoPathBehindPath(t *testing.T) {
	for _, k := range allKinds() {
		for _, v := range k.someValues() {
			behind, ok := impl.Extend(k.m, v, k.none)
			wantValue(t, k.name+": no path behind a path", behind, ok, k.none)
			ahead, ok := impl.Extend(k.m, k.none, v)
			wantValue(t, k.name+": a path behind no path", ahead, ok, k.none)
		}
	}
}

func TestPathWithoutEdges(t *testing.T) {
	for _, k := range allKinds() {
		for _, weights := range [][]int{nil, {}} {
			got, ok := impl.PathMeasure(k.m, weights)
			wantValue(t, k.name+": a path without edges", got, ok, k.empty)
		}
		for _, v := range k.someValues() {
			behind, ok := impl.Extend(k.m, v, k.empty)
			wantValue(t, k.name+": no edges behind a path", behind, ok, v)
			ahead, ok := impl.Extend(k.m, k.empty, v)
			wantValue(t, k.name+": a path behind no edges", ahead, ok, v)
		}
	}
}

func TestSumsThatAreTooGreat(t *testing.T) {
	sums := [][3]int{
		{99999, 0, 99999},
		{50000, 49999, 99999},
		{50000, 50000, 100000},
		{50000, 50001, 100000},
		{99999, 1, 100000},
		{99999, 999, 100000},
		{100000, 100000, 100000},
	}
	for _, m := range []int{impl.MeasureLength, impl.MeasureHops} {
		for _, s := range sums {
			got, ok := impl.Extend(m, s[0], s[1])
			wantValue(t, "a sum", got, ok, s[2])
			got, ok = impl.Extend(m, s[1], s[0])
			wantValue(t, "a sum the other way round", got, ok, s[2])
		}
	}
}

func TestInvalidMeasures(t *testing.T) {
	wantNothing := func(m int, a int, b int) {
		t.Helper()
		got, ok := impl.BetterOf(m, a, b)
		wantNoValue(t, "BetterOf", got, ok)
		got, ok = impl.Extend(m, a, b)
		wantNoValue(t, "Extend", got, ok)
		if impl.IsBetter(m, a, b) {
			t.Errorf("IsBetter(%d, %d, %d) holds", m, a, b)
		}
	}
	for _, k := range allKinds() {
		for _, bad := range k.invalidValues() {
			for _, good := range k.someValues() {
				wantNothing(k.m, bad, good)
				wantNothing(k.m, good, bad)
			}
			wantNothing(k.m, bad, bad)
		}
	}
	for _, m := range invalidKinds() {
		wantNothing(m, 0, 1)
		wantNothing(m, 1, 0)
		wantNothing(m, 1, 1)
	}
}

func TestPathMeasureAtLimits(t *testing.T) {
	longest := repeatedWeight(impl.MaxWeight, 50)
	want := map[int]int{impl.MeasureLength: 49950, impl.MeasureWidth: 999, impl.MeasurePeak: 999, impl.MeasureReach: 1, impl.MeasureHops: 50}
	for _, k := range allKinds() {
		got, ok := impl.PathMeasure(k.m, longest)
		wantValue(t, k.name+": 50 edges", got, ok, want[k.m])
		got, ok = impl.PathMeasure(k.m, repeatedWeight(1, 51))
		wantNoValue(t, k.name+": 51 edges", got, ok)
	}
	if !slices.Equal(longest, repeatedWeight(impl.MaxWeight, 50)) {
		t.Error("PathMeasure changes its argument")
	}
}

func TestPathMeasureOfInvalidArguments(t *testing.T) {
	for _, k := range allKinds() {
		for _, bad := range []int{0, -1, impl.MaxWeight + 1, math.MinInt, math.MaxInt} {
			for place := range 3 {
				weights := repeatedWeight(5, 3)
				weights[place] = bad
				got, ok := impl.PathMeasure(k.m, weights)
				wantNoValue(t, k.name+": a number that is no weight", got, ok)
			}
		}
	}
	for _, m := range invalidKinds() {
		for _, weights := range [][]int{nil, {5}, {0}} {
			got, ok := impl.PathMeasure(m, weights)
			wantNoValue(t, "a path of no kind", got, ok)
		}
	}
}

// extended fails the test if Extend returns false.
func extended(t *testing.T, m int, a int, b int) int {
	t.Helper()
	v, ok := impl.Extend(m, a, b)
	if !ok || !impl.ValueValid(m, v) {
		t.Fatalf("Extend(%d, %d, %d) = %d, %v", m, a, b, v, ok)
	}
	return v
}

// TestPromise1 checks that the grouping does not matter, for three measures and for every two parts of a path.
func TestPromise1(t *testing.T) {
	for _, k := range allKinds() {
		values := k.someValues()
		for _, a := range values {
			for _, b := range values {
				for _, c := range values {
					left := extended(t, k.m, extended(t, k.m, a, b), c)
					right := extended(t, k.m, a, extended(t, k.m, b, c))
					if left != right {
						t.Errorf("%s: %d, %d and %d give %d or %d", k.name, a, b, c, left, right)
					}
				}
			}
		}
		path := []int{7, 999, 1, 40, 40, 3, 512, 2}
		whole, ok := impl.PathMeasure(k.m, path)
		for cut := range len(path) + 1 {
			first, firstOk := impl.PathMeasure(k.m, path[:cut])
			second, secondOk := impl.PathMeasure(k.m, path[cut:])
			if !ok || !firstOk || !secondOk || extended(t, k.m, first, second) != whole {
				t.Errorf("%s: the parts in front of and behind edge %d do not give %d", k.name, cut, whole)
			}
		}
	}
}
