package dip

import (
	"iter"
	"slices"

	"stearin/api"
)

// tally is how often each kind is in a plan.
type tally [api.MaxDpKinds]int

// less returns the tally with one dip of a kind less.
func (t tally) less(kind int) tally {
	t[kind]--
	return t
}

// tallies yields the tallies of all plans with so many dips of the first kinds.
func tallies(kinds, dips int) iter.Seq[tally] {
	return func(yield func(tally) bool) {
		var t tally
		// fill shares what is left among the kind at and those after it; it reports whether to go on.
		var fill func(at, left int) bool
		fill = func(at, left int) bool {
			if at == kinds-1 {
				t[at] = left
				return yield(t)
			}
			for n := range left + 1 {
				t[at] = n
				if !fill(at+1, left-n) {
					return false
				}
			}
			return true
		}
		fill(0, dips)
	}
}

// order is a plan, as the kinds of its dips, if there is one.
type order struct {
	kinds  []int
	exists bool
}

// and returns the order with one more dip behind it.
func (o order) and(kind int) order {
	o.kinds = append(slices.Clone(o.kinds), kind)
	return o
}

// firstOf returns the first one of two orders of as many dips, compared dip by dip.
func firstOf(a, b order) order {
	if !a.exists || b.exists && slices.Compare(b.kinds, a.kinds) < 0 {
		return b
	}
	return a
}

// search is a taper, what a dip of each kind adds to its figures, and what these have to be in the end.
type search struct {
	taper api.DpTaper
	adds  []ranges
	goal  ranges
}

// after returns what the taper can be after the dips of a tally, in any order.
func (s search) after(t tally) ranges {
	r := ofTaper(s.taper)
	for kind, add := range s.adds {
		r = r.plus(t[kind], add)
	}
	return r
}

// best returns the best plan.
func (s search) best() order {
	firstWith := s.firstOrders()
	for dips := range api.MaxDpFew + 1 {
		var best order
		for t := range tallies(len(s.adds), dips) {
			if s.after(t).inside(s.goal) {
				best = firstOf(best, firstWith(t))
			}
		}
		if best.exists {
			return best
		}
	}
	return order{}
}

// firstOrders returns a function that returns the first order of the dips of a tally in which the taper is lost in no truth.
func (s search) firstOrders() func(tally) order {
	known := map[tally]order{}
	var first func(t tally) order
	first = func(t tally) order {
		if t == (tally{}) {
			return order{exists: true}
		}
		if o, ok := known[t]; ok {
			return o
		}
		var best order
		// What the taper can be does not depend on the order: if it can be lost after these dips, it is so after all orders of them.
		if !s.after(t).canLose(s.taper.Wick) {
			for kind, n := range t {
				if n == 0 {
					continue
				}
				if before := first(t.less(kind)); before.exists {
					best = firstOf(best, before.and(kind))
				}
			}
		}
		known[t] = best
		return best
	}
	return first
}
