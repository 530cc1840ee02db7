package wax

import (
	"iter"

	"stearin/api"
)

// sample is a table that is looked at, and the readings of a sample, if there is one.
type sample struct {
	api.WxTable
	readings []int
}

// open returns a table without readings, or its error.
func open(t api.WxTable) (sample, api.Errno) {
	if _, _, e := Check(t); e != api.OK {
		return sample{}, e
	}
	return sample{WxTable: t}, api.OK
}

// look returns a table with readings, or the error of either.
func look(t api.WxTable, readings []int) (sample, api.Errno) {
	s, e := open(t)
	if e == api.OK {
		e = checkReadings(readings, len(t.Props))
	}
	if e != api.OK {
		return sample{}, e
	}
	s.readings = readings
	return s, api.OK
}

// knows reports whether a number is the index of a kind.
func (s sample) knows(kind int) bool { return within(kind, 0, len(s.Kinds)-1) }

// differ returns the error of two kinds that have to be different ones.
func (s sample) differ(a, b int) api.Errno {
	switch {
	case !s.knows(a), !s.knows(b):
		return api.ErrNone
	case a == b:
		return api.ErrArg
	}
	return api.OK
}

// everyKind returns the set of all kinds.
func (s sample) everyKind() int { return 1<<len(s.Kinds) - 1 }

// pairs yields the kinds of all mixtures that explain the readings; a kind that does so alone comes as a pair with itself.
func (s sample) pairs() iter.Seq2[int, int] {
	return func(yield func(a, b int) bool) {
		for a := range s.Kinds {
			for b := a; b < len(s.Kinds); b++ {
				if !empty(s.parts(a, b)) && !yield(a, b) {
					return
				}
			}
		}
	}
}

// parts returns how many parts of a are in the mixtures that explain the readings and have both a and b in them.
func (s sample) parts(a, b int) api.Span {
	all := api.Span{Lo: 1, Hi: api.All - 1}
	if a == b {
		all = api.Span{Lo: api.All, Hi: api.All}
	}
	return tighten(all, s.bounds(a, b)...)
}

// partsOf returns how many parts of a kind are in all mixtures that explain the readings.
func (s sample) partsOf(kind int) api.Span {
	all := api.Span{Lo: api.All, Hi: -1}
	for a, b := range s.pairs() {
		parts := api.Span{}
		switch kind {
		case a:
			parts = s.parts(a, b)
		case b:
			parts = s.parts(b, a)
		}
		all = api.Span{Lo: min(all.Lo, parts.Lo), Hi: max(all.Hi, parts.Hi)}
	}
	return all
}

// sets returns the sets of kinds of all mixtures that explain the readings, as keys.
func (s sample) sets() map[int]bool {
	sets := map[int]bool{}
	for a, b := range s.pairs() {
		sets[1<<a|1<<b] = true
	}
	return sets
}

// kindsIn returns the kinds that are in a set.
func kindsIn(set int) []int {
	var kinds []int
	for i := range api.MaxWxKinds {
		if set>>i&1 == 1 {
			kinds = append(kinds, i)
		}
	}
	return kinds
}
