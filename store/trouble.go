package store

import (
	"iter"
	"slices"

	"stearin/api"
)

// trouble is one of the two things that can happen to candles. It is told for all truths of some days together: with one warmth on each day, for a single one.
type trouble interface {
	// pass lets a day pass on which candles can be as warm as a range says.
	pass(day api.Span)
	// near returns how near to it candles can be now: how many hot days there can have been, one after the other, or how many jumps.
	near() int
	// enough returns how near they are when it happens.
	enough() int
}

// bending is how many hot days, one after the other, there can have been until now.
type bending struct {
	api.SoCandle
	hot int
}

func (b *bending) pass(day api.Span) {
	// One warmth does not change the other ones: so each day can be as hot as it can be.
	if day.Hi >= b.Bend {
		b.hot++
	} else {
		b.hot = 0
	}
}

func (b *bending) near() int { return b.hot }

func (b *bending) enough() int { return b.Days }

// tally is how often candles can have jumped at most, if they are as warm as the index says, counted from 1 on: with 0 they cannot be so warm. Before the first day it is all 0.
type tally [api.MaxSoWarm + 1]int

// blooming is how often candles can have jumped until now.
type blooming struct {
	api.SoCandle
	jumps tally
}

func (b *blooming) pass(day api.Span) {
	var next tally
	for warm := range warmths(day) {
		next[warm] = b.to(warm)
	}
	b.jumps = next
}

func (b *blooming) near() int { return slices.Max(b.jumps[:]) - 1 }

func (b *blooming) enough() int { return b.Times }

// to returns how often candles can have jumped, counted as in a tally, if they are so warm on the next day.
func (b *blooming) to(warm int) int {
	if b.jumps == (tally{}) {
		return 1
	}
	most := 0
	for before, jumps := range b.jumps {
		if jumps > 0 && max(before-warm, warm-before) > b.Jump {
			jumps++
		}
		most = max(most, jumps)
	}
	return most
}

// warmths yields how warm it can be on a day, the lowest first.
func warmths(day api.Span) iter.Seq[int] {
	return func(yield func(warm int) bool) {
		for warm := day.Lo; warm <= day.Hi; warm++ {
			if !yield(warm) {
				return
			}
		}
	}
}

// exactly returns the range in which there is just one warmth.
func exactly(warm int) api.Span { return api.Span{Lo: warm, Hi: warm} }

// happens reports whether a trouble can be there now.
func happens(t trouble) bool { return t.near() >= t.enough() }
