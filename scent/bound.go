package scent

import (
	"iter"
	"sort"

	"stearin/api"
)

// last returns the last batch.
func (v view) last() melt { return v.melts[len(v.melts)-1] }

// spare returns how many micrograms more of a thing a batch can have in all truths, below 0 if it is above its limit in some truth.
func (v view) spare(m melt, thing int) int { return v.Things[thing].Limit*m.weight - m.most(thing) }

// room returns how many grams more of a lot the last batch can have, an empty range if there are none. A gram more needs as much of what is spare of a thing as the lot is above its limit: so what keeps this limit is all numbers up to a bound, or all from one on.
func (v view) room(lot int) api.Span {
	m := v.last()
	grams := api.Span{Lo: 0, Hi: api.MaxScGrams - m.Grams[lot]}
	for thing, t := range v.Things {
		needs, spare := v.Lots[lot].Parts[thing].Hi-t.Limit, v.spare(m, thing)
		switch {
		case needs > 0:
			grams.Hi = min(grams.Hi, floor(spare, needs))
		case needs < 0:
			grams.Lo = max(grams.Lo, ceil(-spare, -needs))
		case spare < 0:
			grams.Hi = -1
		}
	}
	return grams
}

// things yields the things of a kind.
func (v view) things(kind int) iter.Seq[int] {
	return func(yield func(int) bool) {
		for i, t := range v.Things {
			if t.Kind == kind && !yield(i) {
				return
			}
		}
	}
}

// weakens returns by how much the scents weaken a wick, if there are so many micrograms of each thing: Weak times these, together.
func (v view) weakens(micrograms func(thing int) int) int {
	all := 0
	for scent := range v.things(api.ScScent) {
		all += v.Things[scent].Weak * micrograms(scent)
	}
	return all
}

// pull returns what a wick has left in a batch: it is the least where there is the most of all scents.
func (v view) pull(m melt) api.Span {
	whole := milligram * m.weight
	return api.Span{
		Lo: max(0, api.All-ceil(v.weakens(m.most), whole)),
		Hi: max(0, api.All-floor(v.weakens(m.least), whole)),
	}
}

// pales returns after how many days a dye is pale of which the last batch has so many micrograms; more than MaxDay, if it is never so.
func (v view) pales(dye, micrograms, shows int) int {
	bound := api.All * v.last().weight * shows
	return sort.Search(api.MaxDay+1, func(days int) bool {
		return micrograms*max(0, api.All-v.Things[dye].Fade*days) < bound
	})
}
