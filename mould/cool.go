package mould

import (
	"iter"

	"stearin/api"
)

// view is a mould that is looked at.
type view struct{ api.MdMould }

// warmth is how warm each ring is; where the mould has no ring it is 0.
type warmth [api.MaxMdRings]int

// of returns how warm a ring is.
func (w warmth) of(ring int) int { return w[ring] }

// minuteLater returns the warmth of the rings a minute later, with the wall at a warmth in this minute.
func (v view) minuteLater(now warmth, wall int) warmth {
	next := now
	before := wall
	for ring := range v.Rings {
		own := now[ring]
		behind := now[min(ring+1, v.Rings-1)]
		next[ring] = (v.Give*(before+behind) + (api.All-2*v.Give)*own) / api.All
		before = own
	}
	return next
}

// steady is a truth in which all rings have the same warmth when they are poured, and the wall has the same in each minute.
type steady struct{ pour, wall int }

// coldest and warmest return the truths at the two ends. What a ring takes from a neighbour is never less if this is warmer: so in each minute each ring is least warm in the coldest truth, and warmest in the warmest one.

func (v view) coldest() steady { return steady{v.Pour.Lo, v.Wall.Lo} }

func (v view) warmest() steady { return steady{v.Pour.Hi, v.Wall.Hi} }

// Which end is which.
const (
	cold = iota
	warm
	manyEnds
)

// atEnds returns what is so in the truths at the two ends.
func atEnds[T any](v view, whatIn func(steady) T) [manyEnds]T {
	var both [manyEnds]T
	for end, truth := range [manyEnds]func(view) steady{cold: view.coldest, warm: view.warmest} {
		both[end] = whatIn(truth(v))
	}
	return both
}

// span returns what a number can be that is least at one of the two ends, and greatest at the other one.
func span[T any](both [manyEnds]T, number func(T) int) api.Span {
	a, b := number(both[cold]), number(both[warm])
	return api.Span{Lo: min(a, b), Hi: max(a, b)}
}

// spans returns what such a number of each ring can be.
func spans[T any](rings int, both [manyEnds]T, number func(of T, ring int) int) []api.Span {
	var list []api.Span
	for ring := range rings {
		list = append(list, span(both, func(of T) int { return number(of, ring) }))
	}
	return list
}

// minutes yields the minutes, and the warmth of the rings in each of them, until it changes no more.
func (v view) minutes(t steady) iter.Seq2[int, warmth] {
	return func(yield func(int, warmth) bool) {
		var now warmth
		for ring := range v.Rings {
			now[ring] = t.pour
		}
		for minute := range api.MaxMdMinutes + 1 {
			if !yield(minute, now) {
				return
			}
			next := v.minuteLater(now, t.wall)
			// With the same wall in each minute, what has stayed once stays for ever.
			if next == now {
				return
			}
			now = next
		}
	}
}

// after returns the warmth of the rings after some minutes.
func (v view) after(some int, t steady) warmth {
	var last warmth
	for minute, now := range v.minutes(t) {
		if minute > some {
			break
		}
		last = now
	}
	return last
}

// setting is in which minute each ring sets; one that does not is not in it.
type setting map[int]int

// of returns in which minute a ring sets.
func (s setting) of(ring int) int { return s[ring] }

// skin returns the skin in a minute.
func (s setting) skin(minute int) int {
	rings := 0
	for _, at := range s {
		if at <= minute {
			rings++
		}
	}
	return rings
}

// sets returns in which minutes the rings set.
func (v view) sets(t steady) setting {
	s := setting{}
cooling:
	for minute, now := range v.minutes(t) {
		for ring := range v.Rings {
			if _, before := s[ring]; !before && now[ring] <= v.Set {
				s[ring] = minute
			}
			if len(s) == v.Rings {
				break cooling
			}
		}
	}
	return s
}

// complete reports whether all rings set in each truth. If one does not do so in some truth, it does not in the warmest one.
func (v view) complete(both [manyEnds]setting) bool { return len(both[warm]) == v.Rings }
