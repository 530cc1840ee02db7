package blend

import (
	"iter"
	"slices"

	"stearin/api"
)

// recipes yields all recipes whose parts are in their ranges, those with fewer parts of the first waxes first.
func recipes(ranges []api.Span) iter.Seq[[]int] {
	return func(yield func([]int) bool) {
		recipe := make([]int, len(ranges))
		// fill tries all parts of the wax at, and of those after it, with what is left; it reports whether to go on.
		var fill func(at, left int) bool
		fill = func(at, left int) bool {
			if at == len(recipe) {
				return left > 0 || yield(slices.Clone(recipe))
			}
			for n := ranges[at].Lo; n <= min(ranges[at].Hi, left); n++ {
				recipe[at] = n
				if !fill(at+1, left-n) {
					return false
				}
			}
			return true
		}
		fill(0, api.BdWhole)
	}
}

// fitting yields the blends of all recipes that fit a wish, in the order of recipes.
func fitting(l []api.BdWax, w api.BdWish) iter.Seq[mix] {
	return func(yield func(mix) bool) {
		for recipe := range recipes(w.Parts) {
			m := mixOf(l, recipe)
			if m.fault(w) == api.BdFits && !yield(m) {
				return
			}
		}
	}
}
