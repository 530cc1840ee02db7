package scent

import (
	"cmp"
	"slices"

	"stearin/api"
	"stearin/wax"
)

// Check returns the part, the index in it and the error of a shop.
func Check(s api.ScShop) (part, at int, e api.Errno) {
	if e := cmp.Or(lengthError(s.Things, 1, api.MaxScThings), lengthError(s.Lots, 1, api.MaxScLots)); e != api.OK {
		return 1, 0, e
	}
	if at, e := firstError(s.Things, thingError); e != api.OK {
		return 2, at, e
	}
	at, e = firstError(s.Lots, func(before []api.ScLot, lot api.ScLot) api.Errno { return lotError(before, lot, len(s.Things)) })
	if e != api.OK {
		return 3, at, e
	}
	return 0, 0, api.OK
}

// thingError returns the error of a thing behind others.
func thingError(before []api.ScThing, t api.ScThing) api.Errno {
	return cmp.Or(
		nameError(before, t, func(t api.ScThing) string { return t.Name }),
		kindError(t.Kind),
		rangeError(0, api.MaxScParts, t.Limit),
		rangeError(0, mostIf(t.Kind == api.ScScent, api.MaxScWeak), t.Weak),
		rangeError(0, mostIf(t.Kind == api.ScDye, api.All), t.Fade),
	)
}

// lotError returns the error of a lot behind others, in a shop with so many things.
func lotError(before []api.ScLot, lot api.ScLot, things int) api.Errno {
	return cmp.Or(
		nameError(before, lot, func(lot api.ScLot) string { return lot.Name }),
		lengthError(lot.Parts, things, things),
		spansError(api.MaxScParts, lot.Parts),
	)
}

// givenError returns the error of a shop, or else of its batches.
func givenError(s api.ScShop, l []api.ScBatch) api.Errno {
	_, _, e := Check(s)
	if e = cmp.Or(e, lengthError(l, 1, api.MaxScBatches)); e != api.OK {
		return e
	}
	_, e = firstError(l, func(before []api.ScBatch, b api.ScBatch) api.Errno { return batchError(s, before, b) })
	return e
}

// batchError returns the error of a batch behind others, which have none.
func batchError(s api.ScShop, before []api.ScBatch, b api.ScBatch) api.Errno {
	e := cmp.Or(
		lengthError(b.Grams, len(s.Lots), len(s.Lots)),
		lengthError(b.Back, 0, len(before)),
		lengthError(b.Added, len(s.Things), len(s.Things)),
		rangeError(0, api.MaxScGrams, b.Grams...),
		rangeError(0, api.MaxScGrams, b.Back...),
		spansError(api.MaxScAdded, b.Added),
	)
	switch {
	case e != api.OK:
		return e
	case weight(b) == 0:
		return api.ErrZero
	case slices.Min(left(slices.Concat(before, []api.ScBatch{b}))) < 0:
		return api.ErrDown
	}
	return api.OK
}

// truthError returns the error of a truth of a batch.
func (v view) truthError(m melt, t api.ScTruth) api.Errno {
	things := len(v.Things)
	_, e := firstError(listsOf(t), func(_ [][]int, list []int) api.Errno { return lengthError(list, things, things) })
	e = cmp.Or(lengthError(t.Lots, len(v.Lots), len(v.Lots)), lengthError(t.Back, len(m.Back), len(m.Back)), e)
	if e != api.OK {
		return e
	}
	for i, source := range sourcesOf(t) {
		if !source.liesIn(m.sources[i]) {
			return api.ErrRange
		}
	}
	return api.OK
}

// dyeError returns the error of a number that has to be the index of a dye.
func dyeError(things []api.ScThing, at int) api.Errno {
	switch {
	case !within(0, len(things)-1, at):
		return api.ErrNone
	case things[at].Kind != api.ScDye:
		return api.ErrArg
	}
	return api.OK
}

// firstError returns the index and the error of the first element of a list with an error, which is told from those before it, and itself.
func firstError[T any](list []T, errorOf func(before []T, x T) api.Errno) (at int, e api.Errno) {
	for at, x := range list {
		if e := errorOf(list[:at], x); e != api.OK {
			return at, e
		}
	}
	return 0, api.OK
}

// nameError returns the error of the name of an element, which none before it may have.
func nameError[T any](before []T, x T, name func(T) string) api.Errno {
	switch {
	case !wax.Name(name(x)):
		return api.ErrForm
	case slices.ContainsFunc(before, func(other T) bool { return name(other) == name(x) }):
		return api.ErrTwice
	}
	return api.OK
}

// kindError returns the error of the kind of a thing.
func kindError(kind int) api.Errno {
	switch kind {
	case api.ScScent, api.ScDye, api.ScMetal:
		return api.OK
	}
	return api.ErrArg
}

// mostIf returns the greatest number, which is above 0 just for things of one kind.
func mostIf(ofKind bool, most int) int {
	if ofKind {
		return most
	}
	return 0
}

// lengthError returns the error of a list that has to have from least to most elements.
func lengthError[T any](list []T, least, most int) api.Errno {
	if !within(least, most, len(list)) {
		return api.ErrLong
	}
	return api.OK
}

// indexError returns the error of a number that has to be the index of an element.
func indexError[T any](list []T, at int) api.Errno {
	if !within(0, len(list)-1, at) {
		return api.ErrNone
	}
	return api.OK
}

// spansError returns the error of ranges from 0 to most: the ends of all come before the order of any.
func spansError(most int, spans []api.Span) api.Errno {
	for _, s := range spans {
		if !within(0, most, s.Lo, s.Hi) {
			return api.ErrRange
		}
	}
	if slices.ContainsFunc(spans, empty) {
		return api.ErrArg
	}
	return api.OK
}

// rangeError returns the error of numbers that have to be from least to most.
func rangeError(least, most int, numbers ...int) api.Errno {
	if !within(least, most, numbers...) {
		return api.ErrRange
	}
	return api.OK
}

// within reports whether all numbers are from least to most.
func within(least, most int, numbers ...int) bool {
	for _, n := range numbers {
		if n < least || n > most {
			return false
		}
	}
	return true
}

// empty reports whether nothing is in a range.
func empty(s api.Span) bool { return s.Lo > s.Hi }
