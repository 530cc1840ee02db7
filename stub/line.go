package stub

import (
	"iter"
	"slices"

	"stearin/api"
)

// view is a line that is looked at, and its readings.
type view struct {
	api.StLine
	readings []int
}

// look returns a line and readings to look at, if they have no error.
func look(l api.StLine, readings []int) (view, api.Errno) {
	if _, _, e := Check(l); e != api.OK {
		return view{}, e
	}
	if e := readingsError(l, readings); e != api.OK {
		return view{}, e
	}
	return view{l, readings}, api.OK
}

// points yields the points.
func (v view) points() iter.Seq[int] {
	return func(yield func(int) bool) {
		for point := range len(v.Steps) + 1 {
			if !yield(point) {
				return
			}
		}
	}
}

// weighed yields the points that have a reading.
func (v view) weighed() iter.Seq[int] {
	return func(yield func(int) bool) {
		for point := range v.points() {
			if v.readings[point] != api.StUnweighed && !yield(point) {
				return
			}
		}
	}
}

// wrong returns by how much the scales at a point can be wrong.
func (v view) wrong(point int) int {
	if point == 0 {
		return v.Err
	}
	return v.Steps[point-1].Err
}

// without returns the line with the same readings but the one at a point.
func (v view) without(point int) view {
	readings := slices.Clone(v.readings)
	readings[point] = api.StUnweighed
	return view{v.StLine, readings}
}

// gaps returns how much less weights can be than others in all truths.
func (v view) gaps() (gaps, api.Errno) {
	g, possible := anyGaps(), true
	lies := func(from, to int, less api.Span) {
		possible = possible && g.tighten(bound{from, to, less.Hi}, bound{to, from, -less.Lo})
	}
	for before, step := range v.Steps {
		lies(before, before+1, step.Loss)
	}
	for point := range v.weighed() {
		reading, wrong := v.readings[point], v.wrong(point)
		lies(point, nothing, api.Span{Lo: reading - wrong, Hi: reading + wrong})
	}
	if !possible {
		return gaps{}, api.ErrDown
	}
	return g, api.OK
}

// possible reports whether there is a truth.
func (v view) possible() bool {
	_, e := v.gaps()
	return e == api.OK
}
