package kettle

import (
	"cmp"

	"stearin/api"
)

// none is the number of the thermostat that sticks, if none does.
const none = -1

// Check returns the part, the index in it and the error of a kettle.
func Check(k api.KtKettle) (part, at int, e api.Errno) {
	if e := numbersError(k); e != api.OK {
		return 1, 0, e
	}
	for i, s := range k.Stats {
		if e := statError(s); e != api.OK {
			return 2, i, e
		}
	}
	return 0, 0, api.OK
}

// numbersError returns the error of a kettle apart from its thermostats.
func numbersError(k api.KtKettle) api.Errno {
	return cmp.Or(
		rangeError(1, api.MaxKtJacket, k.Step, k.Fall),
		rangeError(0, api.MaxKtJacket, k.Most),
		rangeError(0, api.MaxKtLoss, k.Loss.Lo, k.Loss.Hi),
		spanError(k.Loss.Lo, k.Loss.Hi),
	)
}

// statError returns the error of a thermostat.
func statError(s api.KtStat) api.Errno {
	return cmp.Or(
		rangeError(0, api.MaxKtOff, s.On, s.Off),
		rangeError(-api.MaxKtErr, api.MaxKtErr, s.Err.Lo, s.Err.Hi),
		// Unlike the ends of a span, On may not even be the same as Off.
		spanError(s.On+1, s.Off),
		spanError(s.Err.Lo, s.Err.Hi),
	)
}

// kettleError returns the error of a kettle alone.
func kettleError(k api.KtKettle) api.Errno {
	_, _, e := Check(k)
	return e
}

// givenError returns the first error of a kettle and of a state of it.
func givenError(k api.KtKettle, s api.KtState) api.Errno {
	return cmp.Or(kettleError(k), warmthError(s.Wax), rangeError(0, k.Most, s.Jacket))
}

// whichError returns the error of the number of the thermostat that sticks.
func whichError(which int) api.Errno {
	if rangeError(none, 1, which) != api.OK {
		return api.ErrNone
	}
	return api.OK
}

// warmthError returns the error of degrees that have to be such as wax can have.
func warmthError(degrees int) api.Errno { return rangeError(0, api.MaxKtWarm, degrees) }

// truthError returns the error of a truth of a kettle.
func truthError(k api.KtKettle, t api.KtTruth) api.Errno {
	e := cmp.Or(whichError(t.Which), rangeError(0, api.MaxKtMinutes, t.From), lengthError(t.Minutes))
	if e != api.OK {
		return e
	}
	for _, m := range t.Minutes {
		if e := minuteError(k, m); e != api.OK {
			return e
		}
	}
	return api.OK
}

// minuteError returns the error of what happens in a minute.
func minuteError(k api.KtKettle, m api.KtMinute) api.Errno {
	e := rangeError(k.Loss.Lo, k.Loss.Hi, m.Loss)
	for i, s := range k.Stats {
		e = cmp.Or(e, rangeError(s.Err.Lo, s.Err.Hi, m.Errs[i]))
	}
	return e
}

// lengthError returns the error of a list with something for each minute.
func lengthError[T any](minutes []T) api.Errno {
	if len(minutes) > api.MaxKtMinutes {
		return api.ErrLong
	}
	return api.OK
}

// spanError returns the error of a span, of whatever numbers, in which at least one has to be.
func spanError[N cmp.Ordered](lo, hi N) api.Errno {
	if lo > hi {
		return api.ErrArg
	}
	return api.OK
}

// rangeError returns the error of numbers that have to be from least to most.
func rangeError(least, most int, numbers ...int) api.Errno {
	for _, n := range numbers {
		if n < least || n > most {
			return api.ErrRange
		}
	}
	return api.OK
}
