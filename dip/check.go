package dip

import (
	"cmp"
	"slices"

	"stearin/api"
	"stearin/wax"
)

// Check returns the part, the index in it and the error of a shop.
func Check(x api.DpShop) (part, at int, e api.Errno) {
	if e := numbersError(x); e != api.OK {
		return 1, 0, e
	}
	if !within(1, api.MaxDpBaths, len(x.Baths)) {
		return 2, 0, api.ErrLong
	}
	at, e = firstError(x.Baths, func(before []api.DpBath, own api.DpBath) api.Errno { return bathError(x.Melt, before, own) })
	if e != api.OK {
		return 2, at, e
	}
	return 0, 0, api.OK
}

// shopError returns the error of a shop alone.
func shopError(x api.DpShop) api.Errno {
	_, _, e := Check(x)
	return e
}

// numbersError returns the error of the wax and of the frame of a shop.
func numbersError(x api.DpShop) api.Errno {
	return cmp.Or(
		rangeError(api.MaxWarm, x.Melt),
		rangeError(api.MaxDpCoat, x.Coat),
		rangeError(api.MaxDpThin, x.Thin),
		rangeError(api.MaxDpBack, x.Back),
		rangeError(api.MaxDpRun, x.Run),
		rangeError(api.MaxDpSeconds, x.Hold, x.Draw, x.Set),
	)
}

// bathError returns the error of a bath of a wax that melts at a warmth; no bath before it may have the same name.
func bathError(melt int, before []api.DpBath, own api.DpBath) api.Errno {
	switch {
	case !wax.Name(own.Name):
		return api.ErrForm
	case slices.ContainsFunc(before, func(b api.DpBath) bool { return b.Name == own.Name }):
		return api.ErrTwice
	case !within(0, api.MaxWarm, own.Warm.Lo, own.Warm.Hi):
		return api.ErrRange
	case own.Warm.Lo < melt:
		return api.ErrDown
	case empty(own.Warm):
		return api.ErrArg
	}
	return api.OK
}

// givenError returns the first error of a shop, a taper and a plan.
func givenError(x api.DpShop, t api.DpTaper, plan []api.DpDip) api.Errno {
	return cmp.Or(shopError(x), taperError(t), planError(x, plan))
}

// taperError returns the error of a taper.
func taperError(t api.DpTaper) api.Errno {
	if e := rangeError(api.MaxDpWide, t.Wick, t.Top, t.Foot); e != api.OK {
		return e
	}
	if lost(t) {
		return api.ErrArg
	}
	return api.OK
}

// planError returns the error of a plan.
func planError(x api.DpShop, plan []api.DpDip) api.Errno {
	if len(plan) > api.MaxDpDips {
		return api.ErrLong
	}
	_, e := firstError(plan, func(_ []api.DpDip, own api.DpDip) api.Errno { return dipError(x, own) })
	return e
}

// dipError returns the error of a dip.
func dipError(x api.DpShop, d api.DpDip) api.Errno {
	switch {
	case !within(0, len(x.Baths)-1, d.Bath):
		return api.ErrNone
	case !within(0, api.MaxDpSeconds, d.Seconds, d.Pause):
		return api.ErrRange
	case d.Seconds <= x.Draw:
		return api.ErrArg
	}
	return api.OK
}

// warmthError returns the error of a warmth for each dip of a plan that has no error.
func warmthError(x api.DpShop, plan []api.DpDip, warm []int) api.Errno {
	if len(warm) != len(plan) {
		return api.ErrLong
	}
	for i, d := range plan {
		if bath := x.Baths[d.Bath].Warm; !within(bath.Lo, bath.Hi, warm[i]) {
			return api.ErrRange
		}
	}
	return api.OK
}

// kindsError returns the error of kinds of dips.
func kindsError(x api.DpShop, kinds []api.DpDip) api.Errno {
	if !within(1, api.MaxDpKinds, len(kinds)) {
		return api.ErrLong
	}
	return planError(x, kinds)
}

// wantError returns the error of diameters that are wanted, and of how far from straight the taper can be.
func wantError(want api.Span, bound int) api.Errno {
	switch {
	case empty(want):
		return api.ErrArg
	case bound < 0:
		return api.ErrRange
	}
	return api.OK
}

// firstError returns the first element of a list that has an error, and this error, which is told from the elements before it, and itself.
func firstError[T any](list []T, errorOf func(before []T, own T) api.Errno) (at int, e api.Errno) {
	for i, own := range list {
		if e := errorOf(list[:i], own); e != api.OK {
			return i, e
		}
	}
	return 0, api.OK
}

// rangeError returns the error of numbers that have to be from 0 to most.
func rangeError(most int, numbers ...int) api.Errno {
	if !within(0, most, numbers...) {
		return api.ErrRange
	}
	return api.OK
}

// within reports whether all numbers are from least to most.
func within(least, most int, numbers ...int) bool {
	for _, n := range numbers {
		if n < least || n > most {
			return false
		}
	}
	return true
}

// empty reports whether nothing is in a range.
func empty(s api.Span) bool { return s.Lo > s.Hi }
