package hour

import (
	"cmp"
	"slices"

	"stearin/api"
)

// view is a shop that is looked at, with tests of its kinds.
type view struct {
	api.HrShop
	tests []api.HrTest
}

// look returns the view of a shop and of tests, or the error of one of them.
func look(s api.HrShop, l ...api.HrTest) (view, api.Errno) {
	if e := cmp.Or(shopError(s), testsError(s, l)); e != api.OK {
		return view{}, e
	}
	return view{s, l}, api.OK
}

// promises returns a function that returns the promise of a kind, and tells it from the tests only once.
func (v view) promises() func(kind int) (int, api.Errno) {
	known := map[int]int{}
	return func(kind int) (int, api.Errno) {
		if hours, ok := known[kind]; ok {
			return hours, api.OK
		}
		c, e := v.candle(kind)
		if e != api.OK {
			return 0, e
		}
		known[kind] = c.promise()
		return known[kind], api.OK
	}
}

// candle is what each candle of a kind is: what it weighs, what is left of it, and how much it burns in an hour.
type candle struct {
	api.HrKind
	rates api.Span
}

// candleOf returns the candle of a kind of a shop.
func candleOf(s api.HrShop, l []api.HrTest, kind int) (candle, api.Errno) {
	v, e := look(s, l...)
	if e != api.OK {
		return candle{}, e
	}
	return v.candle(kind)
}

// candle returns the candle of a kind, or why nothing is known of how it burns.
func (v view) candle(kind int) (candle, api.Errno) {
	if e := indexError(v.Kinds, kind); e != api.OK {
		return candle{}, e
	}
	var least, greatest []int
	for _, t := range v.tests {
		if x := ratesOf(t); t.Kind == kind && x.possible() {
			rate := x.rounded()
			least, greatest = append(least, rate.Lo), append(greatest, rate.Hi)
		}
	}
	if len(least) == 0 {
		return candle{}, api.ErrDown
	}
	rates := v.widened(slices.Min(least), slices.Max(greatest))
	if rates.Hi == 0 {
		return candle{}, api.ErrZero
	}
	return candle{v.Kinds[kind], rates}, api.OK
}

// widened returns the range from a least to a greatest rate, and the margin on both sides.
func (v view) widened(least, greatest int) api.Span {
	return ends{
		least:    fraction{least * (api.All - v.Margin), api.All},
		greatest: fraction{greatest * (api.All + v.Margin), api.All},
	}.rounded()
}

// times returns for how many minutes a candle burns: for ever, if its rate can be 0.
func (c candle) times() ends {
	return ends{
		least:    fraction{perHour * (c.Weight.Lo - c.Rest), c.rates.Hi},
		greatest: fraction{perHour * (c.Weight.Hi - c.Rest), c.rates.Lo},
	}
}

// minutes returns the times in whole minutes, of which no more are told than there can be.
func (c candle) minutes() api.Span {
	x, most := c.times(), whole(api.MaxHrMinutes)
	return ends{x.least.atMost(most), x.greatest.atMost(most)}.rounded()
}

// promise returns for how many hours a candle burns at least. As no more minutes are told than there can be, there are no more hours, either.
func (c candle) promise() int { return c.minutes().Lo / perHour }

// fault returns the first reason why a kind does not fit a rule.
func (c candle) fault(r api.HrRule) int {
	// They are in the order of their numbers, which begin with that of the first one.
	trials := [...]func(r api.HrRule) bool{c.short, c.long, c.misweighs}
	for i, fails := range trials {
		if fails(r) {
			return api.HrShort + i
		}
	}
	return api.HrFits
}

// short reports whether a candle can burn for less than a rule says.
func (c candle) short(r api.HrRule) bool { return c.times().least.below(whole(r.Minutes.Lo)) }

// long reports whether a candle can burn for more than a rule says.
func (c candle) long(r api.HrRule) bool { return c.times().greatest.above(whole(r.Minutes.Hi)) }

// misweighs reports whether a candle can weigh less or more than a rule says.
func (c candle) misweighs(r api.HrRule) bool {
	return c.Weight.Lo < r.Weight.Lo || c.Weight.Hi > r.Weight.Hi
}
