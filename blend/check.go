package blend

import (
	"slices"

	"stearin/api"
	"stearin/wax"
)

// Check returns the part, the index in it and the error of waxes.
func Check(l []api.BdWax) (part, at int, e api.Errno) {
	if !within(1, api.MaxBdWaxes, len(l)) {
		return 1, 0, api.ErrLong
	}
	for i := range l {
		if e := waxError(l, i); e != api.OK {
			return 2, i, e
		}
	}
	return 0, 0, api.OK
}

// waxesError returns the error of waxes alone.
func waxesError(l []api.BdWax) api.Errno {
	_, _, e := Check(l)
	return e
}

// waxError returns the error of one of the waxes.
func waxError(l []api.BdWax, at int) api.Errno {
	x := l[at]
	switch {
	case !wax.Name(x.Name):
		return api.ErrForm
	case slices.ContainsFunc(l[:at], func(before api.BdWax) bool { return before.Name == x.Name }):
		return api.ErrTwice
	case !within(0, api.MaxBdPrice, x.Price), !spanWithin(api.MaxWarm, x.Melt), !spanWithin(api.All, x.Shrink):
		return api.ErrRange
	case empty(x.Melt), empty(x.Shrink):
		return api.ErrArg
	case len(x.Curve) > api.MaxBdPoints:
		return api.ErrLong
	}
	return curveError(x.Curve)
}

// curveError returns the error of the first point of a curve that has one.
func curveError(curve []api.BdPoint) api.Errno {
	before := -1
	for _, p := range curve {
		switch {
		case !within(0, api.BdWhole, p.Parts), !within(-api.MaxBdAdd, api.MaxBdAdd, p.Add):
			return api.ErrRange
		case p.Parts <= before:
			return api.ErrArg
		}
		before = p.Parts
	}
	return api.OK
}

// indexError returns the error of a number that has to be the index of a wax.
func indexError(l []api.BdWax, at int) api.Errno {
	if !within(0, len(l)-1, at) {
		return api.ErrNone
	}
	return api.OK
}

// recipeError returns the error of a recipe.
func recipeError(l []api.BdWax, recipe []int) api.Errno {
	switch {
	case len(recipe) != len(l):
		return api.ErrLong
	case !within(0, api.BdWhole, recipe...):
		return api.ErrRange
	case sum(recipe, func(n int) int { return n }) != api.BdWhole:
		return api.ErrArg
	}
	return api.OK
}

// wishError returns the error of a wish.
func wishError(l []api.BdWax, w api.BdWish) api.Errno {
	switch {
	case len(w.Parts) != len(l):
		return api.ErrLong
	case !spanWithin(api.BdWhole, w.Parts...), !spanWithin(api.MaxWarm, w.Melt), !spanWithin(api.All, w.Shrink):
		return api.ErrRange
	case slices.ContainsFunc(w.Parts, empty), empty(w.Melt), empty(w.Shrink):
		return api.ErrArg
	}
	return api.OK
}

// lotsError returns the error of lots of the waxes.
func lotsError(l []api.BdWax, lots []api.BdLot) api.Errno {
	if len(lots) != len(l) {
		return api.ErrLong
	}
	for i, lot := range lots {
		melt, shrink := l[i].Melt, l[i].Shrink
		if !within(melt.Lo, melt.Hi, lot.Melt) || !within(shrink.Lo, shrink.Hi, lot.Shrink) {
			return api.ErrRange
		}
	}
	return api.OK
}

// within reports whether all numbers are from least to most.
func within(least, most int, numbers ...int) bool {
	for _, n := range numbers {
		if n < least || n > most {
			return false
		}
	}
	return true
}

// spanWithin reports whether the ends of all ranges are from 0 to most.
func spanWithin(most int, spans ...api.Span) bool {
	for _, s := range spans {
		if !within(0, most, s.Lo, s.Hi) {
			return false
		}
	}
	return true
}

// empty reports whether nothing is in a range.
func empty(s api.Span) bool { return s.Lo > s.Hi }
