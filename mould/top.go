package mould

import (
	"sort"

	"stearin/api"
)

// shrinks returns by how much a ring shrinks.
func (v view) shrinks(ring int) int {
	behind := v.Rings - 1 - ring
	return v.Shrink * (1 + 2*behind)
}

// closed returns whether there is a truth in which the skin is too thick to pour through in a minute. If there is one, it is so in the coldest truth, in which each ring sets as early as it can.
func (v view) closed(both [manyEnds]setting) func(minute int) bool {
	return func(minute int) bool { return both[cold].skin(minute) > v.Skin }
}

// latest returns the last minute in which a topping can be poured in each truth, or -1. The skin never becomes thinner, so all minutes before it are such ones, too.
func (v view) latest(both [manyEnds]setting) int {
	return sort.Search(api.MaxMdMinutes+1, v.closed(both)) - 1
}

// fate is the hollow that there is in the end, and what all toppings poured. The earlier the rings set, the more there is to be filled: the hollow is least in the coldest truth, and greatest in the warmest one; what is poured is so the other way round.
type fate struct{ hollow, poured int }

// topUp returns what comes of a plan, if the rings set like this.
func (v view) topUp(s setting, plan []int) fate {
	var f fate
	from := 0
	// grow lets the hollow grow by what the rings shrink that set from the minute from to the minute until.
	grow := func(until int) {
		for ring, at := range s {
			if from <= at && at <= until {
				f.hollow += v.shrinks(ring)
			}
		}
		from = until + 1
	}
	for _, minute := range plan {
		grow(minute)
		fill := min(v.Fill, f.hollow)
		f.hollow -= fill
		f.poured += fill
	}
	grow(api.MaxMdMinutes)
	return f
}
