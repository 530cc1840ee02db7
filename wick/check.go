package wick

import (
	"cmp"
	"slices"

	"stearin/api"
	"stearin/wax"
)

// Check returns the part, the index in it and the error of a shop.
func Check(s api.WkShop) (part, at int, e api.Errno) {
	if e := boundsError(s); e != api.OK {
		return 1, 0, e
	}
	for i := range s.Wicks {
		if e := wickError(s.Wicks, i); e != api.OK {
			return 2, i, e
		}
	}
	for i := range s.Waxes {
		if e := waxError(s.Waxes, i); e != api.OK {
			return 3, i, e
		}
	}
	return 0, 0, api.OK
}

// shopError returns the error of a shop alone.
func shopError(s api.WkShop) api.Errno {
	_, _, e := Check(s)
	return e
}

// boundsError returns the error of a shop as a whole.
func boundsError(s api.WkShop) api.Errno {
	if !within(1, api.MaxWkWicks, len(s.Wicks)) || !within(1, api.MaxWkWaxes, len(s.Waxes)) {
		return api.ErrLong
	}
	return cmp.Or(rangeError(0, api.MaxWarm, s.Flame.Lo, s.Flame.Hi, s.Pool.Lo, s.Pool.Hi), orderError(s.Flame, s.Pool))
}

// wickError returns the error of one of the wicks.
func wickError(wicks []api.WkWick, at int) api.Errno {
	w := wicks[at]
	return cmp.Or(
		nameError(wicks, at, func(w api.WkWick) string { return w.Name }),
		rangeError(1, api.MaxWkThreads, w.Threads),
		rangeError(1, api.MaxWkPull, w.Pull.Lo, w.Pull.Hi),
		orderError(w.Pull),
	)
}

// waxError returns the error of one of the waxes.
func waxError(waxes []api.WkWax, at int) api.Errno {
	w := waxes[at]
	return cmp.Or(
		nameError(waxes, at, func(w api.WkWax) string { return w.Name }),
		rangeError(0, api.MaxWkChill, w.Chill),
		rangeError(1, api.MaxWkFlow, w.Flow.Lo, w.Flow.Hi),
		rangeError(1, api.MaxWkRise, w.Rise.Lo, w.Rise.Hi),
		rangeError(1, api.MaxWkSpread, w.Spread.Lo, w.Spread.Hi),
		orderError(w.Flow, w.Rise, w.Spread),
	)
}

// nameError returns the error of the name of an element, which none before it may have.
func nameError[T any](list []T, at int, name func(T) string) api.Errno {
	own := name(list[at])
	switch {
	case !wax.Name(own):
		return api.ErrForm
	case slices.ContainsFunc(list[:at], func(before T) bool { return name(before) == own }):
		return api.ErrTwice
	}
	return api.OK
}

// errorOf returns the first error of a shop, of a number that has to be the index of a wick, and of a candle.
func errorOf(s api.WkShop, wick int, c api.WkCandle) api.Errno {
	return cmp.Or(shopError(s), indexError(len(s.Wicks), wick), candleError(s, c))
}

// candleError returns the error of a candle.
func candleError(s api.WkShop, c api.WkCandle) (e api.Errno) {
	defer func() {
		if left := recover(); left != nil {
			e = left.(api.Errno)
		}
	}()
	need(indexError(len(s.Waxes), c.Wax))
	need(rangeError(1, api.MaxWkDiameter, c.Diameter))
	need(rangeError(0, api.MaxWkDraught, c.Draught))
	need(rangeError(0, api.MaxWkCold, c.Cold.Lo, c.Cold.Hi))
	need(orderError(c.Cold))
	return api.OK
}

// need panics with an error, if there is one: so the first one leaves all that has to be checked.
func need(e api.Errno) {
	if e != api.OK {
		panic(e)
	}
}

// indexError returns the error of a number that has to be an index of so many elements.
func indexError(many, at int) api.Errno {
	if !within(0, many-1, at) {
		return api.ErrNone
	}
	return api.OK
}

// rangeError returns the error of numbers that have to be from least to most.
func rangeError(least, most int, numbers ...int) api.Errno {
	if !within(least, most, numbers...) {
		return api.ErrRange
	}
	return api.OK
}

// orderError returns the error of ranges in which something has to be.
func orderError(spans ...api.Span) api.Errno {
	if slices.ContainsFunc(spans, empty) {
		return api.ErrArg
	}
	return api.OK
}

// within reports whether all numbers are from least to most.
func within(least, most int, numbers ...int) bool {
	for _, n := range numbers {
		if n < least || n > most {
			return false
		}
	}
	return true
}

// empty reports whether nothing is in a range.
func empty(s api.Span) bool { return s.Lo > s.Hi }
