package colour

import (
	"iter"
	"slices"
)

// nowhere is the place at which nothing shows.
const nowhere = -1

// plan is an order, a place in one, or the orders on two machines, with the grams that are lost, if it is possible.
type plan[T any] struct {
	what     T
	grams    int
	possible bool
}

// better returns the plan that loses less, or the first one if none of them does.
func better[T any](a, b plan[T]) plan[T] {
	if !a.possible || b.possible && b.grams < a.grams {
		return b
	}
	return a
}

// set is batches, as the bits of a number.
type set int

// setOf returns the set of so many batches.
func setOf(many int) set { return 1<<many - 1 }

// batches yields the batches of a set, the first one first.
func (x set) batches() iter.Seq[int] {
	return func(yield func(batch int) bool) {
		for batch := 0; x>>batch != 0; batch++ {
			if x>>batch&1 != 0 && !yield(batch) {
				return
			}
		}
	}
}

// without returns a set without some batches that it has.
func (x set) without(some set) set { return x &^ some }

// machine is what colour a machine had before, and the batches that are left for it.
type machine struct {
	before int
	left   set
}

// planner returns a function that finds the best order of what is left for a machine.
func (w work) planner() func(machine) plan[[]int] {
	known := map[machine]plan[[]int]{}
	var bestOf func(m machine) plan[[]int]
	bestOf = func(m machine) plan[[]int] {
		if m.left == 0 {
			return plan[[]int]{possible: true}
		}
		if p, ok := known[m]; ok {
			return p
		}
		var best plan[[]int]
		for batch := range m.left.batches() {
			if grams, possible := w.price(change{m.before, batch}); possible {
				rest := bestOf(machine{w.batches[batch].Colour, m.left.without(1 << batch)})
				best = better(best, behind(rest, batch, grams))
			}
		}
		known[m] = best
		return best
	}
	return bestOf
}

// behind returns an order behind one more batch, which loses so many grams.
func behind(rest plan[[]int], batch, grams int) plan[[]int] {
	return plan[[]int]{slices.Concat([]int{batch}, rest.what), grams + rest.grams, rest.possible}
}

// rush returns the best place of the last batch in an order of all others.
func (w work) rush(start int, order []int) plan[int] {
	var best plan[int]
	for place := range len(order) + 1 {
		grams, possible := w.loss(start, slices.Concat(order[:place], []int{len(order)}, order[place:]))
		best = better(best, plan[int]{place, grams, possible})
	}
	return best
}

// share returns the best orders of the batches on two machines.
func (w work) share(starts [2]int) plan[[2][]int] {
	bestOf := w.planner()
	all := setOf(len(w.batches))
	var best plan[[2][]int]
	for first := range all + 1 {
		best = better(best, together(bestOf(machine{starts[0], first}), bestOf(machine{starts[1], all.without(first)})))
	}
	return best
}

// together returns the plan of both orders.
func together(a, b plan[[]int]) plan[[2][]int] {
	return plan[[2][]int]{[2][]int{a.what, b.what}, a.grams + b.grams, a.possible && b.possible}
}
