package hour

import (
	"cmp"
	"slices"

	"stearin/api"
	"stearin/wax"
)

// Check returns the part, the index in it and the error of a shop.
func Check(s api.HrShop) (part, at int, e api.Errno) {
	e = cmp.Or(
		lengthError(s.Kinds, 1, api.MaxHrKinds),
		lengthError(s.Rules, 0, api.MaxHrRules),
		rangeError(0, api.MaxHrMargin, s.Margin),
	)
	if e != api.OK {
		return 1, 0, e
	}
	if at, e := firstError(s.Kinds, kindError); e != api.OK {
		return 2, at, e
	}
	if at, e := firstError(s.Rules, ruleError); e != api.OK {
		return 3, at, e
	}
	return 0, 0, api.OK
}

// shopError returns the error of a shop alone.
func shopError(s api.HrShop) api.Errno {
	_, _, e := Check(s)
	return e
}

// kindError returns the error of a kind behind others.
func kindError(before []api.HrKind, k api.HrKind) api.Errno {
	return cmp.Or(
		nameError(before, k.Name, nameOfKind),
		rangeError(1, api.MaxHrWeight, k.Weight.Lo, k.Weight.Hi),
		weightError(k.Rest),
		orderError(k.Weight),
		// Less has to be left than the lightest candle weighs.
		orderError(api.Span{Lo: k.Rest + 1, Hi: k.Weight.Lo}),
	)
}

// ruleError returns the error of a rule behind others.
func ruleError(before []api.HrRule, r api.HrRule) api.Errno {
	return cmp.Or(
		nameError(before, r.Name, nameOfRule),
		minuteError(r.Minutes.Lo, r.Minutes.Hi),
		weightError(r.Weight.Lo, r.Weight.Hi),
		orderError(r.Minutes),
		orderError(r.Weight),
	)
}

// testsError returns the error of tests.
func testsError(s api.HrShop, l []api.HrTest) api.Errno {
	if e := lengthError(l, 0, api.MaxHrTests); e != api.OK {
		return e
	}
	_, e := firstError(l, func(_ []api.HrTest, t api.HrTest) api.Errno { return testError(s, t) })
	return e
}

// testError returns the error of a test.
func testError(s api.HrShop, t api.HrTest) api.Errno {
	e := cmp.Or(
		indexError(s.Kinds, t.Kind),
		lengthError(t.Marks, 2, api.MaxHrMarks),
		rangeError(0, api.MaxHrError, t.Error),
	)
	if e != api.OK {
		return e
	}
	_, outside := firstError(t.Marks, func(_ []api.HrMark, m api.HrMark) api.Errno {
		return cmp.Or(minuteError(m.Minute), weightError(m.Weight))
	})
	_, early := firstError(t.Marks, minuteOrderError)
	return cmp.Or(outside, early)
}

// minuteOrderError returns the error of a mark whose minute is not above that of the one before it.
func minuteOrderError(before []api.HrMark, m api.HrMark) api.Errno {
	if len(before) == 0 {
		return api.OK
	}
	return orderError(api.Span{Lo: before[len(before)-1].Minute + 1, Hi: m.Minute})
}

// boxError returns the error of a box alone.
func boxError(s api.HrShop, b api.HrBox) api.Errno {
	return cmp.Or(indexError(s.Kinds, b.Kind), minuteError(b.Hours))
}

// firstError returns the index and the error of the first element of a list with an error, which is told from those before it, and itself.
func firstError[T any](list []T, errorOf func(before []T, x T) api.Errno) (at int, e api.Errno) {
	for at, x := range list {
		if e := errorOf(list[:at], x); e != api.OK {
			return at, e
		}
	}
	return 0, api.OK
}

// nameError returns the error of the name of an element, which none before it may have.
func nameError[T any](before []T, name string, nameOf func(x T) string) api.Errno {
	switch {
	case !wax.Name(name):
		return api.ErrForm
	case named(before, name, nameOf) >= 0:
		return api.ErrTwice
	}
	return api.OK
}

// named returns the index of the first element with a name, or -1.
func named[T any](list []T, name string, nameOf func(x T) string) int {
	return slices.IndexFunc(list, func(x T) bool { return nameOf(x) == name })
}

// nameOfKind returns the name of a kind.
func nameOfKind(k api.HrKind) string { return k.Name }

// nameOfRule returns the name of a rule.
func nameOfRule(r api.HrRule) string { return r.Name }

// lengthError returns the error of a list that has to have from least to most elements.
func lengthError[T any](list []T, least, most int) api.Errno {
	if len(list) < least || len(list) > most {
		return api.ErrLong
	}
	return api.OK
}

// indexError returns the error of a number that has to be an index of a list.
func indexError[T any](list []T, at int) api.Errno {
	if at < 0 || at >= len(list) {
		return api.ErrNone
	}
	return api.OK
}

// minuteError returns the error of numbers that have to be minutes; as many hours can stand on a box.
func minuteError(numbers ...int) api.Errno { return rangeError(0, api.MaxHrMinutes, numbers...) }

// weightError returns the error of numbers that have to be weights.
func weightError(numbers ...int) api.Errno { return rangeError(0, api.MaxHrWeight, numbers...) }

// rangeError returns the error of numbers that have to be from least to most.
func rangeError(least, most int, numbers ...int) api.Errno {
	for _, n := range numbers {
		if n < least || n > most {
			return api.ErrRange
		}
	}
	return api.OK
}

// orderError returns the error of a range in which there has to be something.
func orderError(s api.Span) api.Errno {
	if s.Lo > s.Hi {
		return api.ErrArg
	}
	return api.OK
}
