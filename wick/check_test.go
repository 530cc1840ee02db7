package wick_test

import (
	"math"
	"slices"
	"strings"
	"testing"

	"stearin/api"
	"stearin/wick"
)

// broken is the example shop with a change, and what Check returns of it.
type broken struct {
	name     string
	change   func(s *api.WkShop)
	part, at int
	e        api.Errno
}

// withTwoWaxes adds a wax to a shop before it is changed.
func withTwoWaxes(change func(s *api.WkShop)) func(s *api.WkShop) {
	return func(s *api.WkShop) {
		s.Waxes = append(s.Waxes, s.Waxes[0])
		s.Waxes[1].Name = "tallow"
		change(s)
	}
}

// brokenShops are shops with errors, and the ones at the limits, which have none.
func brokenShops() []broken {
	list := []broken{
		{"S", func(s *api.WkShop) {}, 0, 0, api.OK},
		{"two waxes", withTwoWaxes(func(s *api.WkShop) {}), 0, 0, api.OK},
		{"the zero value", func(s *api.WkShop) { *s = api.WkShop{} }, 1, 0, api.ErrLong},
		{"empty, not nil", func(s *api.WkShop) { s.Wicks, s.Waxes = []api.WkWick{}, []api.WkWax{} }, 1, 0, api.ErrLong},
		{"no wicks", func(s *api.WkShop) { s.Wicks, s.Flame = nil, span(-1, 0) }, 1, 0, api.ErrLong},
		{"no waxes", func(s *api.WkShop) { s.Waxes, s.Pool = nil, span(0, 2001) }, 1, 0, api.ErrLong},
		{"thirteen wicks", func(s *api.WkShop) { s.Wicks = append(full().Wicks, s.Wicks[0]) }, 1, 0, api.ErrLong},
		{"seven waxes", func(s *api.WkShop) { s.Waxes = append(full().Waxes, s.Waxes[0]) }, 1, 0, api.ErrLong},
		{"many wicks", func(s *api.WkShop) { s.Wicks = make([]api.WkWick, 1000) }, 1, 0, api.ErrLong},
		{"many waxes", func(s *api.WkShop) { s.Waxes = make([]api.WkWax, 1000) }, 1, 0, api.ErrLong},
		{"as much as there can be", func(s *api.WkShop) { *s = full() }, 0, 0, api.OK},
		{"as little as there can be", func(s *api.WkShop) { *s = plain(1, 1, 1, 1, 0) }, 0, 0, api.OK},
		{"bounds before names", func(s *api.WkShop) { s.Flame, s.Wicks[0].Name, s.Waxes[0].Name = span(0, 2001), "", "" }, 1, 0, api.ErrRange},
		{"the range of a bound before the order of another one", func(s *api.WkShop) { s.Flame, s.Pool = span(2, 1), span(0, 2001) }, 1, 0, api.ErrRange},
		{"the range of a bound before its order", func(s *api.WkShop) { s.Pool = span(2001, 0) }, 1, 0, api.ErrRange},
		{"the order of flames", func(s *api.WkShop) { s.Flame, s.Wicks[0].Name = span(21, 20), "" }, 1, 0, api.ErrArg},
		{"the order of pools", func(s *api.WkShop) { s.Pool, s.Waxes[0].Name = span(2000, 0), "" }, 1, 0, api.ErrArg},
		{"bounds at the lower limits", func(s *api.WkShop) { s.Flame, s.Pool = span(0, 0), span(0, 0) }, 0, 0, api.OK},
		{"bounds at the upper limits", func(s *api.WkShop) { s.Flame, s.Pool = span(2000, 2000), span(2000, 2000) }, 0, 0, api.OK},

		{"a wick without name", func(s *api.WkShop) { s.Wicks[1].Name = "" }, 2, 1, api.ErrForm},
		{"a name that is too long", func(s *api.WkShop) { s.Wicks[2].Name = strings.Repeat("a", 21) }, 2, 2, api.ErrForm},
		{"form before range", func(s *api.WkShop) { s.Wicks[1].Name, s.Wicks[1].Threads = "Mid", 0 }, 2, 1, api.ErrForm},
		{"form before twice", func(s *api.WkShop) { s.Wicks[0].Name, s.Wicks[1].Name = "a-", "a-" }, 2, 0, api.ErrForm},
		{"a wick twice", func(s *api.WkShop) { s.Wicks[2].Name = "thin" }, 2, 2, api.ErrTwice},
		{"a wick twice, in a row", func(s *api.WkShop) { s.Wicks[2].Name = "mid" }, 2, 2, api.ErrTwice},
		{"twice before range", func(s *api.WkShop) { s.Wicks[1].Name, s.Wicks[1].Pull = "thin", span(0, 0) }, 2, 1, api.ErrTwice},
		{"range before order", func(s *api.WkShop) { s.Wicks[1].Pull = span(1001, 1000) }, 2, 1, api.ErrRange},
		{"threads before order", func(s *api.WkShop) { s.Wicks[1].Threads, s.Wicks[1].Pull = 101, span(2, 1) }, 2, 1, api.ErrRange},
		{"the order of a pull", func(s *api.WkShop) { s.Wicks[1].Pull = span(2, 1) }, 2, 1, api.ErrArg},
		{"the first wick with an error", func(s *api.WkShop) { s.Wicks[1].Pull, s.Wicks[2].Name = span(2, 1), "" }, 2, 1, api.ErrArg},
		{"the first wick with an error, the other way round", func(s *api.WkShop) { s.Wicks[0].Threads, s.Wicks[1].Name = 0, "" }, 2, 0, api.ErrRange},
		{"wicks before waxes", func(s *api.WkShop) { s.Wicks[2].Pull, s.Waxes[0].Name = span(2, 1), "" }, 2, 2, api.ErrArg},
		{"wicks at the limits", func(s *api.WkShop) {
			s.Wicks[0].Threads, s.Wicks[0].Pull = 1, span(1, 1000)
			s.Wicks[1].Threads, s.Wicks[1].Pull = 100, span(1, 1)
			s.Wicks[2].Threads, s.Wicks[2].Pull = 100, span(1000, 1000)
		}, 0, 0, api.OK},

		{"a wax without name", func(s *api.WkShop) { s.Waxes[0].Name = "" }, 3, 0, api.ErrForm},
		{"form before range, of a wax", func(s *api.WkShop) { s.Waxes[0].Name, s.Waxes[0].Chill = "b--s", -1 }, 3, 0, api.ErrForm},
		{"a wax twice", withTwoWaxes(func(s *api.WkShop) { s.Waxes[1].Name = "bees" }), 3, 1, api.ErrTwice},
		{"twice before range, of a wax", withTwoWaxes(func(s *api.WkShop) { s.Waxes[1].Name, s.Waxes[1].Flow = "bees", span(0, 0) }), 3, 1, api.ErrTwice},
		{"a wax named as a wick", func(s *api.WkShop) { s.Waxes[0].Name = "thin" }, 0, 0, api.OK},
		{"the range of a wax before an order", func(s *api.WkShop) { s.Waxes[0].Flow, s.Waxes[0].Spread = span(2, 1), span(1, 2001) }, 3, 0, api.ErrRange},
		{"chill before order", func(s *api.WkShop) { s.Waxes[0].Flow, s.Waxes[0].Chill = span(2, 1), 51 }, 3, 0, api.ErrRange},
		{"the order of a flow", func(s *api.WkShop) { s.Waxes[0].Flow = span(101, 100) }, 3, 0, api.ErrArg},
		{"the order of a rise", func(s *api.WkShop) { s.Waxes[0].Rise = span(160, 150) }, 3, 0, api.ErrArg},
		{"the order of a spread", withTwoWaxes(func(s *api.WkShop) { s.Waxes[1].Spread = span(2000, 1) }), 3, 1, api.ErrArg},
		{"the first wax with an error", withTwoWaxes(func(s *api.WkShop) { s.Waxes[0].Rise, s.Waxes[1].Name = span(2, 1), "" }), 3, 0, api.ErrArg},
		{"a wax at the lower limits", func(s *api.WkShop) {
			s.Waxes[0] = api.WkWax{Name: "a", Flow: span(1, 1), Rise: span(1, 1), Spread: span(1, 1)}
		}, 0, 0, api.OK},
		{"a wax at the upper limits", func(s *api.WkShop) {
			s.Waxes[0] = api.WkWax{Name: "a", Flow: span(300, 300), Rise: span(1000, 1000), Spread: span(2000, 2000), Chill: 50}
		}, 0, 0, api.OK},
	}
	return append(list, brokenNumbers()...)
}

// brokenNumbers are shops of which one number is not in its range.
func brokenNumbers() []broken {
	var list []broken
	add := func(name string, part, at, least, most int, number func(s *api.WkShop) *int) {
		for _, n := range outside(least, most) {
			list = append(list, broken{name, withTwoWaxes(func(s *api.WkShop) { *number(s) = n }), part, at, api.ErrRange})
		}
	}
	add("flame at least", 1, 0, 0, 2000, func(s *api.WkShop) *int { return &s.Flame.Lo })
	add("flame at most", 1, 0, 0, 2000, func(s *api.WkShop) *int { return &s.Flame.Hi })
	add("pool at least", 1, 0, 0, 2000, func(s *api.WkShop) *int { return &s.Pool.Lo })
	add("pool at most", 1, 0, 0, 2000, func(s *api.WkShop) *int { return &s.Pool.Hi })
	add("threads", 2, 1, 1, 100, func(s *api.WkShop) *int { return &s.Wicks[1].Threads })
	add("pull at least", 2, 2, 1, 1000, func(s *api.WkShop) *int { return &s.Wicks[2].Pull.Lo })
	add("pull at most", 2, 2, 1, 1000, func(s *api.WkShop) *int { return &s.Wicks[2].Pull.Hi })
	add("chill", 3, 1, 0, 50, func(s *api.WkShop) *int { return &s.Waxes[1].Chill })
	add("flow at least", 3, 1, 1, 300, func(s *api.WkShop) *int { return &s.Waxes[1].Flow.Lo })
	add("flow at most", 3, 1, 1, 300, func(s *api.WkShop) *int { return &s.Waxes[1].Flow.Hi })
	add("rise at least", 3, 1, 1, 1000, func(s *api.WkShop) *int { return &s.Waxes[1].Rise.Lo })
	add("rise at most", 3, 1, 1, 1000, func(s *api.WkShop) *int { return &s.Waxes[1].Rise.Hi })
	add("spread at least", 3, 1, 1, 2000, func(s *api.WkShop) *int { return &s.Waxes[1].Spread.Lo })
	add("spread at most", 3, 0, 1, 2000, func(s *api.WkShop) *int { return &s.Waxes[0].Spread.Hi })
	return list
}

// P3.1
func TestCheckNamesTheFirstError(t *testing.T) {
	for _, c := range brokenShops() {
		s := example()
		c.change(&s)
		if part, at, e := wick.Check(s); part != c.part || at != c.at || e != c.e {
			t.Errorf("%s: Check = %d, %d, %d, not %d, %d, %d", c.name, part, at, e, c.part, c.at, c.e)
		}
	}
}

// answers are the errors of all functions with a shop but Check.
type answers struct{ at, burn, faults, sizes, minutes, suits, thinnest api.Errno }

// alike are answers of which those with a wick are the first error, and those without one the second one.
func alike(with, without api.Errno) answers {
	return answers{with, with, with, with, with, without, without}
}

// ask calls all functions with a shop but Check, and reports an error that comes with another result.
func ask(t *testing.T, s api.WkShop, at int, c api.WkCandle, truth api.WkTruth, grams int) answers {
	t.Helper()
	var a answers
	var burn, least, most api.WkBurn
	var faults, suits []int
	var thinnest int
	var sizes, minutes api.Span
	burn, a.at = wick.At(s, at, c, truth)
	least, most, a.burn = wick.Burn(s, at, c)
	faults, a.faults = wick.Faults(s, at, c)
	sizes, a.sizes = wick.Sizes(s, at, c)
	minutes, a.minutes = wick.Minutes(s, at, c, grams)
	suits, a.suits = wick.Suits(s, c)
	thinnest, a.thinnest = wick.Thinnest(s, c)
	for i, x := range []struct {
		e    api.Errno
		zero bool
	}{
		{a.at, burn == api.WkBurn{}},
		{a.burn, least == api.WkBurn{} && most == api.WkBurn{}},
		{a.faults, len(faults) == 0},
		{a.sizes, sizes == api.Span{}},
		{a.minutes, minutes == api.Span{}},
		{a.suits, len(suits) == 0},
		{a.thinnest, thinnest == 0},
	} {
		if x.e != api.OK && !x.zero || x.e < api.OK || x.e > api.ErrDown {
			t.Fatalf("%v, %d, %v, %v, %d: the function %d returns the error %d and more", s, at, c, truth, grams, i, x.e)
		}
	}
	return a
}

// P3.1, P1: all functions but Check return the error of the shop first, whatever else is wrong.
func TestTheErrorOfTheShopComesFirst(t *testing.T) {
	for _, c := range brokenShops() {
		s := example()
		c.change(&s)
		if c.e == api.OK {
			continue
		}
		for _, candle := range []api.WkCandle{exampleCandle(), {Wax: 9, Diameter: -1, Cold: span(2, 1)}, {Wax: math.MinInt, Diameter: math.MaxInt}} {
			for _, at := range []int{0, -1, 99, math.MaxInt} {
				if a := ask(t, s, at, candle, api.WkTruth{}, -1); a != alike(c.e, c.e) {
					t.Errorf("%s: %v, not %d", c.name, a, c.e)
				}
			}
		}
	}
}

// P3.2 to P3.5: then comes ErrNone for the wick, in all functions that have one.
func TestTheErrorOfTheWick(t *testing.T) {
	bad := api.WkCandle{Wax: 0, Diameter: 0, Draught: 91, Cold: span(2, 1)}
	for _, at := range []int{-1, 3, 4, 12, 1000000, math.MinInt, math.MaxInt} {
		a := ask(t, example(), at, exampleCandle(), api.WkTruth{}, -1)
		if a != alike(api.ErrNone, api.OK) {
			t.Errorf("%d: %v", at, a)
		}
		if a := ask(t, example(), at, bad, api.WkTruth{}, -1); a != alike(api.ErrNone, api.ErrRange) {
			t.Errorf("%d: %v", at, a)
		}
	}
	for at := range 3 {
		if a := ask(t, example(), at, bad, api.WkTruth{}, -1); a != alike(api.ErrRange, api.ErrRange) {
			t.Errorf("%d: %v", at, a)
		}
	}
}

// brokenCandle is a candle, and its error.
type brokenCandle struct {
	c api.WkCandle
	e api.Errno
}

// brokenCandles are the candle C with errors.
func brokenCandles() []brokenCandle {
	var list []brokenCandle
	add := func(e api.Errno, change func(c *api.WkCandle)) {
		c := exampleCandle()
		change(&c)
		list = append(list, brokenCandle{c, e})
	}
	for _, n := range append(outside(0, 0), 2, 5, 6) {
		add(api.ErrNone, func(c *api.WkCandle) { c.Wax = n })
		add(api.ErrNone, func(c *api.WkCandle) { c.Wax, c.Diameter, c.Cold = n, 0, span(2, 1) })
	}
	for _, n := range outside(1, 2000) {
		add(api.ErrRange, func(c *api.WkCandle) { c.Diameter = n })
	}
	for _, n := range outside(0, 90) {
		add(api.ErrRange, func(c *api.WkCandle) { c.Draught = n })
	}
	for _, n := range outside(0, 300) {
		add(api.ErrRange, func(c *api.WkCandle) { c.Cold.Lo = n })
		add(api.ErrRange, func(c *api.WkCandle) { c.Cold.Hi = n })
	}
	add(api.ErrRange, func(c *api.WkCandle) { c.Diameter, c.Cold = 2001, span(2, 1) })
	add(api.ErrRange, func(c *api.WkCandle) { c.Draught, c.Cold = -1, span(2, 1) })
	add(api.ErrRange, func(c *api.WkCandle) { c.Cold = span(301, 300) })
	add(api.ErrArg, func(c *api.WkCandle) { c.Cold = span(1, 0) })
	add(api.ErrArg, func(c *api.WkCandle) { c.Cold = span(300, 0) })
	return list
}

// P3.2 to P3.5: then comes the error of the candle, and after it what else is wrong.
func TestTheErrorOfTheCandle(t *testing.T) {
	for _, x := range brokenCandles() {
		for at := range 3 {
			if a := ask(t, example(), at, x.c, api.WkTruth{}, -1); a != alike(x.e, x.e) {
				t.Errorf("%v: %v, not %d", x.c, a, x.e)
			}
		}
	}
	two := example()
	withTwoWaxes(func(s *api.WkShop) {})(&two)
	for _, c := range []api.WkCandle{
		{Wax: 0, Diameter: 1, Draught: 0, Cold: span(0, 0)},
		{Wax: 0, Diameter: 2000, Draught: 90, Cold: span(300, 300)},
		{Wax: 1, Diameter: 300, Draught: 10, Cold: span(0, 300)},
	} {
		a := ask(t, two, 1, c, api.WkTruth{}, -1)
		if a.at != api.ErrRange || a.minutes != api.ErrRange || a.burn != api.OK || a.faults != api.OK || a.suits != api.OK {
			t.Errorf("%v: %v", c, a)
		}
	}
}

// P3.2: no number of a truth may be outside of its range; each end is in it.
func TestTheErrorOfATruth(t *testing.T) {
	s, c := example(), exampleCandle()
	s.Waxes[0].Flow = span(90, 110)
	inside := api.WkTruth{Pull: 22, Flow: 100, Rise: 155, Spread: 1050, Draught: 0, Cold: 10}
	for i, x := range []struct {
		number func(t *api.WkTruth) *int
		ends   api.Span
	}{
		{func(t *api.WkTruth) *int { return &t.Pull }, span(20, 24)},
		{func(t *api.WkTruth) *int { return &t.Flow }, span(90, 110)},
		{func(t *api.WkTruth) *int { return &t.Rise }, span(150, 160)},
		{func(t *api.WkTruth) *int { return &t.Spread }, span(1000, 1100)},
		{func(t *api.WkTruth) *int { return &t.Draught }, span(-10, 10)},
		{func(t *api.WkTruth) *int { return &t.Cold }, span(0, 20)},
	} {
		for _, n := range []int{x.ends.Lo, x.ends.Hi} {
			truth := inside
			*x.number(&truth) = n
			if b, e := wick.At(s, 1, c, truth); b != burnt(1, truth) || e != api.OK {
				t.Errorf("%d, %d: At = %v, %d", i, n, b, e)
			}
		}
		for _, n := range outside(x.ends.Lo, x.ends.Hi) {
			truth := inside
			*x.number(&truth) = n
			if b, e := wick.At(s, 1, c, truth); b != (api.WkBurn{}) || e != api.ErrRange {
				t.Errorf("%d, %d: At = %v, %d", i, n, b, e)
			}
		}
	}
	// The ranges are those of the wick and of the wax that are asked for.
	if _, e := wick.At(s, 0, c, inside); e != api.ErrRange {
		t.Errorf("another wick: %d", e)
	}
	if _, e := wick.At(s, 2, c, inside); e != api.ErrRange {
		t.Errorf("another wick: %d", e)
	}
	two := clone(s)
	withTwoWaxes(func(s *api.WkShop) { s.Waxes[1].Rise = span(10, 20) })(&two)
	c.Wax = 1
	if _, e := wick.At(two, 1, c, inside); e != api.ErrRange {
		t.Errorf("another wax: %d", e)
	}
}

// P3.5: grams are from 1 to 100000.
func TestTheErrorOfGrams(t *testing.T) {
	for _, n := range append(outside(1, 100000), -2) {
		if m, e := wick.Minutes(example(), 1, exampleCandle(), n); m != (api.Span{}) || e != api.ErrRange {
			t.Errorf("%d: Minutes = %v, %d", n, m, e)
		}
	}
	for _, n := range []int{1, 2, 99999, 100000} {
		if _, e := wick.Minutes(example(), 1, exampleCandle(), n); e != api.OK {
			t.Errorf("%d: Minutes: %d", n, e)
		}
	}
}

// P3.3, P3.4: a wick that does not suit is told by ErrDown, where something has to be returned; elsewhere it is no error.
func TestNothingSuits(t *testing.T) {
	s, c := example(), exampleCandle()
	c.Diameter = 285
	if l, e := wick.Suits(s, c); len(l) != 0 || e != api.OK {
		t.Errorf("Suits = %v, %d", l, e)
	}
	if i, e := wick.Thinnest(s, c); i != 0 || e != api.ErrDown {
		t.Errorf("Thinnest = %d, %d", i, e)
	}
	if x, e := wick.Sizes(s, 2, c); x != (api.Span{}) || e != api.ErrDown {
		t.Errorf("Sizes = %v, %d", x, e)
	}
	if l, e := wick.Faults(s, 2, c); !slices.Equal(l, []int{api.WkSmokes, api.WkRuns}) || e != api.OK {
		t.Errorf("Faults = %v, %d", l, e)
	}
}
