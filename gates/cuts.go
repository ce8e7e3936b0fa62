package gates

import (
	"slices"

	"ratchet/api"
)

// pointSet is points, ascending, and zeros after them.
type pointSet [api.MaxGateCut]int

// points is the points of a set, in new memory.
func (s pointSet) points() []int {
	return slices.DeleteFunc(s[:], func(point int) bool { return point == 0 })
}

// CutsOf returns all cuts of a point with at most so many points.
func CutsOf(g api.GateGraph, point, most int) ([][]int, api.Errno) {
	e := firstError(
		errorOfGates(g),
		errorOfPoint(g, point),
		errorIf(most < 1 || most > api.MaxGateCut, api.ErrRange),
		errorOfForm(g),
		errorIf(len(g.Gates) > api.MaxGateShort, api.ErrLarge),
	)
	if e != api.OK {
		return nil, e
	}
	known := make([][]pointSet, firstGate(g))
	for leaf := range known {
		known[leaf] = []pointSet{{leaf}}
	}
	known = alongGates(g, known, func(known [][]pointSet, gate [2]int) []pointSet {
		unions := unionsOf(known[pointOf(gate[0])], known[pointOf(gate[1])], most)
		return append(unions, pointSet{len(known)})
	})
	var cuts [][]int
	for _, s := range known[point] {
		cuts = append(cuts, s.points())
	}
	slices.SortFunc(cuts, slices.Compare[[]int])
	return cuts, api.OK
}

// unionsOf is the unions of a cut of one list and one of another list that have at most so many points, and contain no other one of them.
func unionsOf(a, b []pointSet, most int) []pointSet {
	var unions []pointSet
	known := map[pointSet]bool{}
	for _, x := range a {
		for _, y := range b {
			union, fits := unionOf(x, y, most)
			if fits && !known[union] {
				known[union] = true
				unions = append(unions, union)
			}
		}
	}
	return slices.DeleteFunc(unions, func(s pointSet) bool { return hasPartIn(s, known) })
}

// unionOf is the union of two sets, and whether it has at most so many points.
func unionOf(x, y pointSet, most int) (pointSet, bool) {
	var union pointSet
	i, j := 0, 0
	for count := 0; ; count++ {
		a, b := x.at(i), y.at(j)
		next := a
		if a == 0 || b != 0 && b < a {
			next = b
		}
		if next == 0 {
			return union, true
		}
		if count == most {
			return pointSet{}, false
		}
		union[count] = next
		if a == next {
			i++
		}
		if b == next {
			j++
		}
	}
}

// at is the point at a place, 0 after the last one.
func (s pointSet) at(i int) int {
	if i == len(s) {
		return 0
	}
	return s[i]
}

// hasPartIn says whether a part of a set, but not all of it, is one of some others.
func hasPartIn(s pointSet, known map[pointSet]bool) bool {
	points := s.points()
	for chosen := range 1<<len(points) - 1 {
		var part pointSet
		count := 0
		for i, point := range points {
			if chosen>>i&1 == 1 {
				part[count] = point
				count++
			}
		}
		if known[part] {
			return true
		}
	}
	return false
}

// open is in place of the table of a point from which a way down misses the cut.
const open = -1

// TableOf returns the table of a point over a cut.
func TableOf(g api.GateGraph, point int, cut []int) (int, api.Errno) {
	if e := firstError(errorOfGates(g), errorOfPoint(g, point), errorOfCut(g, cut)); e != api.OK {
		return 0, e
	}
	ofCut := tablesOf(cut)
	// What is below a point of the cut does not matter.
	tableOr := func(point, below int) int {
		if table, found := ofCut[point]; found {
			return table
		}
		return below
	}
	tables := make([]int, firstGate(g))
	for p := range tables {
		tables[p] = tableOr(p, open)
	}
	tables = alongGates(g, tables, func(known []int, gate [2]int) int {
		return tableOr(len(known), tableOfGate(known, gate, len(cut)))
	})
	if tables[point] == open {
		return 0, api.ErrOpen
	}
	return tables[point], api.OK
}

// errorOfCut is the error of points over which a table is asked for.
func errorOfCut(g api.GateGraph, cut []int) api.Errno {
	if len(cut) > api.MaxGateCut {
		return api.ErrLarge
	}
	_, e := firstWrong(cut, func(i, point int) api.Errno {
		return firstError(errorOfPoint(g, point), errorIf(i > 0 && point <= cut[i-1], api.ErrOrder))
	})
	return e
}

// tablesOf is the tables of the points of a cut themselves.
func tablesOf(cut []int) map[int]int {
	tables := map[int]int{}
	for i, point := range cut {
		for k := range 1 << len(cut) {
			tables[point] |= k >> i & 1 << k
		}
	}
	return tables
}

// tableOfGate is the table of a gate by those of the points before it.
func tableOfGate(known []int, gate [2]int, points int) int {
	table := 1<<(1<<points) - 1
	for _, literal := range gate {
		ofPoint := known[pointOf(literal)]
		if ofPoint == open {
			return open
		}
		if literal&1 == 1 {
			ofPoint = ^ofPoint
		}
		table &= ofPoint
	}
	return table
}
