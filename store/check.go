package store

import (
	"cmp"
	"slices"

	"stearin/api"
	"stearin/wax"
)

// Check returns the part, the index in it and the error of a season.
func Check(s api.SoSeason) (part, at int, e api.Errno) {
	if e := cmp.Or(candleError(s.Candle), centsError(s.Move)); e != api.OK {
		return 1, 0, e
	}
	if e := lengthError(s.Stores, 1, api.MaxSoStores); e != api.OK {
		return 2, 0, e
	}
	if at, e := firstError(s.Stores, storeError); e != api.OK {
		return 2, at, e
	}
	return 0, 0, api.OK
}

// seasonError returns the error of a season alone.
func seasonError(s api.SoSeason) api.Errno {
	_, _, e := Check(s)
	return e
}

// candleError returns the error of a candle.
func candleError(c api.SoCandle) api.Errno {
	return cmp.Or(warmthError(c.Bend, c.Jump), rangeError(1, api.MaxSoDays, c.Days, c.Times))
}

// storeError returns the error of a store behind others, which have none.
func storeError(before []api.SoStore, s api.SoStore) api.Errno {
	_, warmError := firstError(s.Warm, func(_ []api.Span, warm api.Span) api.Errno { return spanError(warm) })
	return cmp.Or(nameError(before, s.Name), centsError(s.Rent), daysError(before, s), warmError)
}

// nameError returns the error of the name of a store, which none before it may have.
func nameError(before []api.SoStore, name string) api.Errno {
	switch {
	case !wax.Name(name):
		return api.ErrForm
	case slices.ContainsFunc(before, func(s api.SoStore) bool { return s.Name == name }):
		return api.ErrTwice
	}
	return api.OK
}

// daysError returns the error of the number of days of a store, which is that of the first one before it.
func daysError(before []api.SoStore, s api.SoStore) api.Errno {
	if len(before) == 0 {
		return lengthError(s.Warm, 1, api.MaxSoDays)
	}
	days := len(before[0].Warm)
	return lengthError(s.Warm, days, days)
}

// spanError returns the error of how warm a store can be on a day.
func spanError(warm api.Span) api.Errno {
	if e := warmthError(warm.Lo, warm.Hi); e != api.OK {
		return e
	}
	if warm.Lo > warm.Hi {
		return api.ErrArg
	}
	return api.OK
}

// wayError returns the error of a season, or else of a way through its stores.
func wayError(s api.SoSeason, way []int) api.Errno {
	if e := seasonError(s); e != api.OK {
		return e
	}
	_, storeError := firstError(way, func(_ []int, store int) api.Errno { return indexError(s.Stores, store) })
	return cmp.Or(lengthError(way, 1, len(s.Stores[0].Warm)), storeError)
}

// truthError returns the error of a warmth for each of some days, on which it can be as these ranges say.
func truthError(days []api.Span, warm []int) api.Errno {
	if e := lengthError(warm, len(days), len(days)); e != api.OK {
		return e
	}
	_, e := firstError(warm, func(before []int, w int) api.Errno {
		day := days[len(before)]
		return rangeError(day.Lo, day.Hi, w)
	})
	return e
}

// stayError returns the error of a season, or else of a store and of a day in it.
func stayError(s api.SoSeason, store, day int) api.Errno {
	if e := cmp.Or(seasonError(s), indexError(s.Stores, store)); e != api.OK {
		return e
	}
	return indexError(s.Stores[store].Warm, day)
}

// firstError returns the index and the error of the first element of a list with an error, which is told from those before it, and itself.
func firstError[T any](list []T, errorOf func(before []T, x T) api.Errno) (at int, e api.Errno) {
	for at, x := range list {
		if e := errorOf(list[:at], x); e != api.OK {
			return at, e
		}
	}
	return 0, api.OK
}

// lengthError returns the error of a list that has to have from least to most elements.
func lengthError[T any](list []T, least, most int) api.Errno {
	if len(list) < least || len(list) > most {
		return api.ErrLong
	}
	return api.OK
}

// indexError returns the error of a number that has to be an index of a list.
func indexError[T any](list []T, at int) api.Errno {
	if at < 0 || at >= len(list) {
		return api.ErrNone
	}
	return api.OK
}

// warmthError returns the error of numbers that have to be degrees.
func warmthError(numbers ...int) api.Errno { return rangeError(0, api.MaxSoWarm, numbers...) }

// centsError returns the error of numbers that have to be what something costs.
func centsError(numbers ...int) api.Errno { return rangeError(0, api.MaxSoCents, numbers...) }

// rangeError returns the error of numbers that have to be from least to most.
func rangeError(least, most int, numbers ...int) api.Errno {
	for _, n := range numbers {
		if n < least || n > most {
			return api.ErrRange
		}
	}
	return api.OK
}
