// Package wax is layer 1: see shared/doc/01-wax.md.
package wax

import (
	"maps"
	"slices"

	"stearin/api"
)

// Mixed returns how many parts of a kind a sample of two kinds can have.
func Mixed(t api.WxTable, readings []int, a, b int) (api.Span, api.Errno) {
	s, e := look(t, readings)
	if e == api.OK {
		e = s.differ(a, b)
	}
	if e != api.OK {
		return api.Span{}, e
	}
	parts := tighten(api.Span{Lo: 0, Hi: api.All}, s.bounds(a, b)...)
	if empty(parts) {
		return api.Span{}, api.ErrDown
	}
	return parts, api.OK
}

// Sets returns of which kinds a sample can consist, as sets.
func Sets(t api.WxTable, readings []int) ([]int, api.Errno) {
	s, e := look(t, readings)
	if e != api.OK {
		return nil, e
	}
	return slices.Sorted(maps.Keys(s.sets())), api.OK
}

// Sold returns how many parts of a kind a sample can have, and whether it is pure.
func Sold(t api.WxTable, readings []int, kind int) (parts api.Span, verdict int, e api.Errno) {
	s, e := look(t, readings)
	if e != api.OK {
		return api.Span{}, 0, e
	}
	if !s.knows(kind) {
		return api.Span{}, 0, api.ErrNone
	}
	parts = s.partsOf(kind)
	if empty(parts) {
		return api.Span{}, 0, api.ErrDown
	}
	return parts, judge(parts, s.Purity), api.OK
}

// judge returns whether a sample with some parts of a kind is pure.
func judge(parts api.Span, purity int) int {
	switch {
	case parts.Lo >= purity:
		return api.WxPure
	case parts.Hi < purity:
		return api.WxImpure
	}
	return api.WxPerhaps
}

// Within returns which kinds must be in a sample, and which ones can be.
func Within(t api.WxTable, readings []int) (must, may []int, e api.Errno) {
	s, e := look(t, readings)
	if e != api.OK {
		return nil, nil, e
	}
	sets := s.sets()
	if len(sets) == 0 {
		return nil, nil, api.ErrDown
	}
	inAll, inSome := s.everyKind(), 0
	for set := range sets {
		inAll &= set
		inSome |= set
	}
	return kindsIn(inAll), kindsIn(inSome), api.OK
}

// Detect returns the least part of a kind that is always found in another one.
func Detect(t api.WxTable, pure, other int) (int, api.Errno) {
	s, e := open(t)
	if e == api.OK {
		e = s.differ(pure, other)
	}
	if e != api.OK {
		return 0, e
	}
	least := api.All + 1
	for i, p := range s.Props {
		least = min(least, found(s.Kinds[pure].Props[i], s.Kinds[other].Props[i], p.Error))
	}
	if least > api.All {
		return 0, api.ErrDown
	}
	return least, api.OK
}
