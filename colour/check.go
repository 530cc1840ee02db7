package colour

import (
	"cmp"
	"slices"

	"stearin/api"
	"stearin/wax"
)

// Check returns the part, the index in it and the error of a shop.
func Check(s api.ClShop) (part, at int, e api.Errno) {
	if e := machineError(s); e != api.OK {
		return 1, 0, e
	}
	at, e = firstError(s.Colours, func(before []api.ClColour, c api.ClColour) api.Errno {
		return colourError(before, c, len(s.Colours))
	})
	if e != api.OK {
		return 2, at, e
	}
	return 0, 0, api.OK
}

// shopError returns the error of a shop, or else of numbers that have to be indices of its colours.
func shopError(s api.ClShop, colours ...int) api.Errno {
	if _, _, e := Check(s); e != api.OK {
		return e
	}
	_, e := firstError(colours, func(_ []int, colour int) api.Errno { return indexError(s.Colours, colour) })
	return e
}

// machineError returns the error of a shop but for its colours, of which it has as many as stated.
func machineError(s api.ClShop) api.Errno {
	return cmp.Or(
		lengthError(s.Colours, 1, api.MaxClColours),
		rangeError(0, api.MaxClRinse, s.Rinse),
		rangeError(0, api.All, s.Keep.Lo, s.Keep.Hi),
		spanError(s.Keep),
	)
}

// colourError returns the error of one of so many colours behind others, which have none.
func colourError(before []api.ClColour, c api.ClColour, colours int) api.Errno {
	return cmp.Or(
		nameError(before, c.Name),
		lengthError(c.Shows, colours, colours),
		rangeError(0, api.MaxClStay, c.Stay.Lo, c.Stay.Hi),
		rangeError(0, api.All, c.Shows...),
		spanError(c.Stay),
	)
}

// nameError returns the error of the name of a colour, which none before it may have.
func nameError(before []api.ClColour, name string) api.Errno {
	switch {
	case !wax.Name(name):
		return api.ErrForm
	case slices.ContainsFunc(before, func(c api.ClColour) bool { return c.Name == name }):
		return api.ErrTwice
	}
	return api.OK
}

// spanError returns the error of a range in which something has to be.
func spanError(s api.Span) api.Errno {
	if s.Lo > s.Hi {
		return api.ErrArg
	}
	return api.OK
}

// batchesError returns the error of batches. It panics at the first one, as whatever comes behind it does not matter any more.
func batchesError(s api.ClShop, l []api.ClBatch) (e api.Errno) {
	defer func() {
		if left := recover(); left != nil {
			e = left.(api.Errno)
		}
	}()
	need(lengthError(l, 0, api.MaxClBatches))
	for _, b := range l {
		need(batchError(s, b))
	}
	return api.OK
}

// need panics with an error, if there is one.
func need(e api.Errno) {
	if e != api.OK {
		panic(e)
	}
}

// batchError returns the error of a batch.
func batchError(s api.ClShop, b api.ClBatch) api.Errno {
	return cmp.Or(indexError(s.Colours, b.Colour), rangeError(1, api.MaxClGrams, b.Grams))
}

// orderError returns the error of a shop, or else of a start, of batches, and of an order of them.
func orderError(s api.ClShop, start int, l []api.ClBatch, order []int) api.Errno {
	if e := cmp.Or(shopError(s, start), batchesError(s, l), lengthError(order, len(l), len(l))); e != api.OK {
		return e
	}
	_, none := firstError(order, func(_ []int, batch int) api.Errno { return indexError(l, batch) })
	_, twice := firstError(order, twiceError)
	return cmp.Or(none, twice)
}

// twiceError returns the error of a batch that may not be before as well.
func twiceError(before []int, batch int) api.Errno {
	if slices.Contains(before, batch) {
		return api.ErrTwice
	}
	return api.OK
}

// rinsesError returns the error of numbers that have to be numbers of rinses.
func rinsesError(numbers ...int) api.Errno { return rangeError(0, api.MaxClRinses, numbers...) }

// firstError returns the index and the error of the first element of a list with an error, which is told from those before it, and itself.
func firstError[T any](list []T, errorOf func(before []T, x T) api.Errno) (at int, e api.Errno) {
	for at, x := range list {
		if e := errorOf(list[:at], x); e != api.OK {
			return at, e
		}
	}
	return 0, api.OK
}

// lengthError returns the error of a list that has to have from least to most elements.
func lengthError[T any](list []T, least, most int) api.Errno {
	if len(list) < least || len(list) > most {
		return api.ErrLong
	}
	return api.OK
}

// indexError returns the error of a number that has to be an index of a list.
func indexError[T any](list []T, at int) api.Errno {
	if at < 0 || at >= len(list) {
		return api.ErrNone
	}
	return api.OK
}

// rangeError returns the error of numbers that have to be from least to most.
func rangeError(least, most int, numbers ...int) api.Errno {
	for _, n := range numbers {
		if n < least || n > most {
			return api.ErrRange
		}
	}
	return api.OK
}
