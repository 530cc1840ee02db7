package stub

import (
	"cmp"
	"slices"

	"stearin/api"
	"stearin/wax"
)

// allKinds is the set of all kinds of wax.
const allKinds = 1<<api.MaxStKinds - 1

// Check returns the part, the index in it and the error of a line.
func Check(l api.StLine) (part, at int, e api.Errno) {
	if e := gramsError(l.Err); e != api.OK {
		return 1, 0, e
	}
	if e := lengthError(l.Steps, 1, api.MaxStSteps); e != api.OK {
		return 2, 0, e
	}
	if at, e := firstError(l.Steps, stepError); e != api.OK {
		return 2, at, e
	}
	return 0, 0, api.OK
}

// stepError returns the error of a step behind others.
func stepError(before []api.StStep, s api.StStep) api.Errno {
	return cmp.Or(
		nameError(before, s.Name),
		gramsError(s.Loss.Lo, s.Loss.Hi, s.Err),
		orderError(s.Loss),
	)
}

// nameError returns the error of the name of a step, which none before it may have.
func nameError(before []api.StStep, name string) api.Errno {
	switch {
	case !wax.Name(name):
		return api.ErrForm
	case slices.ContainsFunc(before, func(s api.StStep) bool { return s.Name == name }):
		return api.ErrTwice
	}
	return api.OK
}

// readingsError returns the error of readings of a line, which has none.
func readingsError(l api.StLine, readings []int) api.Errno {
	if e := lengthError(readings, len(l.Steps)+1, len(l.Steps)+1); e != api.OK {
		return e
	}
	_, e := firstError(readings, func(_ []int, reading int) api.Errno {
		if reading == api.StUnweighed {
			return api.OK
		}
		return gramsError(reading)
	})
	return e
}

// wayError returns the error of two points, one for each of these readings, of which the first one has to come first.
func wayError(readings []int, from, to int) api.Errno {
	if from < 0 || from >= to || to >= len(readings) {
		return api.ErrNone
	}
	return api.OK
}

// weighedError returns the error of a point that has to have a reading.
func weighedError(readings []int, point int) api.Errno {
	if point < 0 || point >= len(readings) || readings[point] == api.StUnweighed {
		return api.ErrNone
	}
	return api.OK
}

// givenError returns the error of a sort, or else of bags.
func givenError(s api.StSort, bags []api.StBag) api.Errno {
	e := cmp.Or(
		kindsError(s.Kinds),
		rangeError(0, api.All, s.Foreign),
		lengthError(bags, 0, api.MaxStBags),
	)
	if e != api.OK {
		return e
	}
	_, e = firstError(bags, func(_ []api.StBag, b api.StBag) api.Errno { return bagError(b) })
	return e
}

// bagError returns the error of a bag.
func bagError(b api.StBag) api.Errno {
	return cmp.Or(gramsError(b.Grams.Lo, b.Grams.Hi), kindsError(b.Kinds), orderError(b.Grams))
}

// firstError returns the index and the error of the first element of a list with an error, which is told from those before it, and itself.
func firstError[T any](list []T, errorOf func(before []T, x T) api.Errno) (at int, e api.Errno) {
	for at, x := range list {
		if e := errorOf(list[:at], x); e != api.OK {
			return at, e
		}
	}
	return 0, api.OK
}

// lengthError returns the error of a list that has to have from least to most elements.
func lengthError[T any](list []T, least, most int) api.Errno {
	if len(list) < least || len(list) > most {
		return api.ErrLong
	}
	return api.OK
}

// kindsError returns the error of a set of kinds, which has to have at least one.
func kindsError(kinds int) api.Errno { return rangeError(1, allKinds, kinds) }

// gramsError returns the error of numbers that have to be grams.
func gramsError(numbers ...int) api.Errno { return rangeError(0, api.MaxStGrams, numbers...) }

// rangeError returns the error of numbers that have to be from least to most.
func rangeError(least, most int, numbers ...int) api.Errno {
	for _, n := range numbers {
		if n < least || n > most {
			return api.ErrRange
		}
	}
	return api.OK
}

// orderError returns the error of a range in which there has to be something.
func orderError(s api.Span) api.Errno {
	if s.Lo > s.Hi {
		return api.ErrArg
	}
	return api.OK
}
