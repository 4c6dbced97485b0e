package impl

// Kinds of measures of paths, and their limits.
const (
	MeasureLength = 1
	MeasureWidth  = 2
	MeasurePeak   = 3
	MeasureReach  = 4
	MeasureHops   = 5
	MaxWeight     = 999
	MaxMeasure    = 100000
)

const maxPathEdges = 50

// operations compares measures of paths of one kind, and puts them together.
type operations[V any] interface {
	noPath() V
	emptyPath() V
	better(a V, b V) bool
	ofEdge(weight int) V
	join(a V, b V) V
}

// lessIsBetter is the order of the kinds for which less is better.
type lessIsBetter struct{}

func (lessIsBetter) noPath() int              { return MaxMeasure }
func (lessIsBetter) emptyPath() int           { return 0 }
func (lessIsBetter) better(a int, b int) bool { return a < b }

// greaterIsBetter is the order of the kinds for which greater is better, up to best.
type greaterIsBetter struct{ best int }

func (greaterIsBetter) noPath() int              { return 0 }
func (o greaterIsBetter) emptyPath() int         { return o.best }
func (greaterIsBetter) better(a int, b int) bool { return a > b }

// weightOfEdge measures an edge by its weight.
type weightOfEdge struct{}

func (weightOfEdge) ofEdge(weight int) int { return weight }

// oneForEdge measures each edge by 1.
type oneForEdge struct{}

func (oneForEdge) ofEdge(weight int) int { return 1 }

// joinBySum adds measures. It stops at MaxMeasure, so that no path remains no path.
type joinBySum struct{}

func (joinBySum) join(a int, b int) int { return min(a+b, MaxMeasure) }

// joinByLesser takes the lesser one of two measures.
type joinByLesser struct{}

func (joinByLesser) join(a int, b int) int { return min(a, b) }

// joinByGreater takes the greater one of two measures.
type joinByGreater struct{}

func (joinByGreater) join(a int, b int) int { return max(a, b) }

type lengthOperations struct {
	lessIsBetter
	weightOfEdge
	joinBySum
}

type widthOperations struct {
	greaterIsBetter
	weightOfEdge
	joinByLesser
}

type peakOperations struct {
	lessIsBetter
	weightOfEdge
	joinByGreater
}

type reachOperations struct {
	greaterIsBetter
	oneForEdge
	joinByLesser
}

type hopsOperations struct {
	lessIsBetter
	oneForEdge
	joinBySum
}

// operationsFor returns the operations of the kind m, and whether m is a kind and all values are measures of it.
func operationsFor(m int, values ...int) (operations[int], bool) {
	if !MeasureValid(m) {
		return nil, false
	}
	table := [...]operations[int]{
		MeasureLength: lengthOperations{},
		MeasureWidth:  widthOperations{greaterIsBetter: greaterIsBetter{best: MaxMeasure}},
		MeasurePeak:   peakOperations{},
		MeasureReach:  reachOperations{greaterIsBetter: greaterIsBetter{best: 1}},
		MeasureHops:   hopsOperations{},
	}
	for _, v := range values {
		if !isMeasure(table[m], v) {
			return nil, false
		}
	}
	return table[m], true
}

// isMeasure relies on the fact that no measure is worse than that of no path, and none is better than that of a path without edges.
func isMeasure[V any](ops operations[V], v V) bool {
	return !ops.better(ops.noPath(), v) && !ops.better(v, ops.emptyPath())
}

func betterOf[V any](ops operations[V], a V, b V) V {
	if ops.better(b, a) {
		return b
	}
	return a
}

// compareMeasures is the order of measures, the better one first.
func compareMeasures[V any](ops operations[V], a V, b V) int {
	switch {
	case ops.better(a, b):
		return -1
	case ops.better(b, a):
		return 1
	}
	return 0
}

func measureOfEdges[V any](ops operations[V], weights []int) V {
	whole := ops.emptyPath()
	for _, weight := range weights {
		whole = ops.join(whole, ops.ofEdge(weight))
	}
	return whole
}

func weightValid(weight int) bool {
	return 1 <= weight && weight <= MaxWeight
}

func weightsValid(weights []int) bool {
	for _, weight := range weights {
		if !weightValid(weight) {
			return false
		}
	}
	return true
}

// MeasureValid reports whether m is a kind of measures.
func MeasureValid(m int) bool {
	return MeasureLength <= m && m <= MeasureHops
}

// NoPath returns the measure of no path.
func NoPath(m int) (int, bool) {
	ops, ok := operationsFor(m)
	if !ok {
		return 0, false
	}
	return ops.noPath(), true
}

// EmptyPath returns the measure of a path without edges.
func EmptyPath(m int) (int, bool) {
	ops, ok := operationsFor(m)
	if !ok {
		return 0, false
	}
	return ops.emptyPath(), true
}

// EdgeMeasure returns the measure of an edge with a weight.
func EdgeMeasure(m int, weight int) (int, bool) {
	ops, ok := operationsFor(m)
	if !ok || !weightValid(weight) {
		return 0, false
	}
	return ops.ofEdge(weight), true
}

// ValueValid reports whether v is a measure of a kind.
func ValueValid(m int, v int) bool {
	_, ok := operationsFor(m, v)
	return ok
}

// BetterOf returns the better one of two measures.
func BetterOf(m int, a int, b int) (int, bool) {
	ops, ok := operationsFor(m, a, b)
	if !ok {
		return 0, false
	}
	return betterOf(ops, a, b), true
}

// IsBetter reports whether a measure is better than another one.
func IsBetter(m int, a int, b int) bool {
	ops, ok := operationsFor(m, a, b)
	return ok && ops.better(a, b)
}

// Extend returns the measure of two paths, one behind the other.
func Extend(m int, a int, b int) (int, bool) {
	ops, ok := operationsFor(m, a, b)
	if !ok {
		return 0, false
	}
	return ops.join(a, b), true
}

// PathMeasure returns the measure of a path with some weights.
func PathMeasure(m int, weights []int) (int, bool) {
	ops, ok := operationsFor(m)
	if !ok || len(weights) > maxPathEdges || !weightsValid(weights) {
		return 0, false
	}
	return measureOfEdges(ops, weights), true
}
