package blend_test

import (
	"math"
	"slices"
	"strings"
	"testing"

	"stearin/api"
	"stearin/blend"
)

// broken are the example waxes with a change, and what Check returns of them.
type broken struct {
	name     string
	change   func(l []api.BdWax) []api.BdWax
	part, at int
	e        api.Errno
}

// at is a change of one of the waxes.
func at(i int, change func(x *api.BdWax)) func(l []api.BdWax) []api.BdWax {
	return func(l []api.BdWax) []api.BdWax {
		change(&l[i])
		return l
	}
}

// full are as many waxes as there can be, with the longest names and the greatest numbers.
func full() []api.BdWax {
	var l []api.BdWax
	for i := range 5 {
		l = append(l, api.BdWax{Name: strings.Repeat("w", 19) + string(rune('a'+i)), Price: 100000, Melt: span(2000, 2000), Shrink: span(1000, 1000), Curve: points(0, 300, 1, -300, 2, 300, 3, -300, 19, 300, 20, -300)})
	}
	return l
}

// brokenWaxes are waxes with errors, and the ones at the limits, which have none.
func brokenWaxes() []broken {
	instead := func(l []api.BdWax) func([]api.BdWax) []api.BdWax {
		return func([]api.BdWax) []api.BdWax { return l }
	}
	list := []broken{
		{"L", instead(example()), 0, 0, api.OK},
		{"no waxes", instead(nil), 1, 0, api.ErrLong},
		{"empty, not nil", instead([]api.BdWax{}), 1, 0, api.ErrLong},
		{"six waxes", instead(make([]api.BdWax, 6)), 1, 0, api.ErrLong},
		{"six waxes without an error of their own", instead(append(full(), example()[0])), 1, 0, api.ErrLong},
		{"many waxes", instead(make([]api.BdWax, 100000)), 1, 0, api.ErrLong},
		{"as much as there can be", instead(full()), 0, 0, api.OK},
		{"one wax", instead(example()[:1]), 0, 0, api.OK},
		{"the zero value", instead(make([]api.BdWax, 1)), 2, 0, api.ErrForm},
		{"zeros with a name", instead([]api.BdWax{{Name: "a"}}), 0, 0, api.OK},
		{"no name", at(1, func(x *api.BdWax) { x.Name = "" }), 2, 1, api.ErrForm},
		{"a name that is too long", at(2, func(x *api.BdWax) { x.Name = strings.Repeat("a", 21) }), 2, 2, api.ErrForm},
		{"two hyphens", at(0, func(x *api.BdWax) { x.Name = "a--b" }), 2, 0, api.ErrForm},
		{"form before range", at(1, func(x *api.BdWax) { x.Name, x.Price = "Bees", -1 }), 2, 1, api.ErrForm},
		{"form before twice", func(l []api.BdWax) []api.BdWax { l[0].Name, l[1].Name = "a-", "a-"; return l }, 2, 0, api.ErrForm},
		{"a name twice", at(2, func(x *api.BdWax) { x.Name = "bees" }), 2, 2, api.ErrTwice},
		{"a name twice, in a row", at(1, func(x *api.BdWax) { x.Name = "bees" }), 2, 1, api.ErrTwice},
		{"twice before range", at(2, func(x *api.BdWax) { x.Name, x.Price = "bees", -1 }), 2, 2, api.ErrTwice},
		{"the first wax with an error", func(l []api.BdWax) []api.BdWax { l[1].Curve, l[2].Name = points(21, 0), ""; return l }, 2, 1, api.ErrRange},
		{"range before order", at(1, func(x *api.BdWax) { x.Melt, x.Shrink = span(2, 1), span(0, 1001) }), 2, 1, api.ErrRange},
		{"price before order", at(1, func(x *api.BdWax) { x.Melt, x.Price = span(2, 1), 100001 }), 2, 1, api.ErrRange},
		{"an order of melt", at(1, func(x *api.BdWax) { x.Melt = span(541, 540) }), 2, 1, api.ErrArg},
		{"an order of shrink", at(1, func(x *api.BdWax) { x.Shrink = span(1000, 0) }), 2, 1, api.ErrArg},
		{"order before points", at(1, func(x *api.BdWax) { x.Melt, x.Curve = span(541, 540), make([]api.BdPoint, 7) }), 2, 1, api.ErrArg},
		{"seven points", at(2, func(x *api.BdWax) { x.Curve = points(0, 0, 1, 0, 2, 0, 3, 0, 4, 0, 5, 0, 6, 0) }), 2, 2, api.ErrLong},
		{"too many before wrong points", at(2, func(x *api.BdWax) { x.Curve = slices.Repeat(points(-1, 0), 7) }), 2, 2, api.ErrLong},
		{"many points", at(0, func(x *api.BdWax) { x.Curve = make([]api.BdPoint, 100000) }), 2, 0, api.ErrLong},
		{"parts twice", at(2, func(x *api.BdWax) { x.Curve = points(0, 0, 2, 20, 2, 30) }), 2, 2, api.ErrArg},
		{"parts that fall", at(2, func(x *api.BdWax) { x.Curve = points(3, 0, 2, 20) }), 2, 2, api.ErrArg},
		{"parts above another point, but not above the one before", at(2, func(x *api.BdWax) { x.Curve = points(1, 0, 5, 0, 3, 0) }), 2, 2, api.ErrArg},
		{"the first point is wrong", at(2, func(x *api.BdWax) { x.Curve = points(0, 0, 0, 0, 21, 0) }), 2, 2, api.ErrArg},
		{"the first point is wrong, the other way round", at(2, func(x *api.BdWax) { x.Curve = points(0, 301, 0, 0) }), 2, 2, api.ErrRange},
		{"range before order in a point", at(2, func(x *api.BdWax) { x.Curve = points(2, 0, 1, 301) }), 2, 2, api.ErrRange},
		{"points at the limits", at(0, func(x *api.BdWax) { x.Curve = points(0, -300, 20, 300) }), 0, 0, api.OK},
		{"an empty curve", at(2, func(x *api.BdWax) { x.Curve = []api.BdPoint{} }), 0, 0, api.OK},
		{"ranges at the limits", at(0, func(x *api.BdWax) { x.Price, x.Melt, x.Shrink = 0, span(0, 2000), span(0, 1000) }), 0, 0, api.OK},
		{"ranges at the other limits", at(0, func(x *api.BdWax) { x.Price, x.Melt, x.Shrink = 100000, span(0, 0), span(1000, 1000) }), 0, 0, api.OK},
	}
	return append(list, brokenNumbers()...)
}

// brokenNumbers are waxes of which one number is not in its range.
func brokenNumbers() []broken {
	var list []broken
	add := func(name string, least, most int, set func(x *api.BdWax, n int)) {
		for _, n := range outside(least, most) {
			list = append(list, broken{name, at(1, func(x *api.BdWax) { set(x, n) }), 2, 1, api.ErrRange})
		}
	}
	add("price", 0, 100000, func(x *api.BdWax, n int) { x.Price = n })
	add("melts at least", 0, 2000, func(x *api.BdWax, n int) { x.Melt.Lo = n })
	add("melts at most", 0, 2000, func(x *api.BdWax, n int) { x.Melt.Hi = n })
	add("shrinks at least", 0, 1000, func(x *api.BdWax, n int) { x.Shrink.Lo = n })
	add("shrinks at most", 0, 1000, func(x *api.BdWax, n int) { x.Shrink.Hi = n })
	add("parts", 0, 20, func(x *api.BdWax, n int) { x.Curve = points(0, 0, n, 0) })
	add("first parts", 0, 20, func(x *api.BdWax, n int) { x.Curve = points(n, 0) })
	add("add", -300, 300, func(x *api.BdWax, n int) { x.Curve = points(5, n) })
	return list
}

// P2.1
func TestCheckNamesTheFirstError(t *testing.T) {
	for _, c := range brokenWaxes() {
		if part, at, e := blend.Check(c.change(example())); part != c.part || at != c.at || e != c.e {
			t.Errorf("%s: Check = %d, %d, %d, not %d, %d, %d", c.name, part, at, e, c.part, c.at, c.e)
		}
	}
}

// answers are the errors of all functions with waxes but Check.
type answers struct{ raise, value, made, fits, cheapest, stays, weigh api.Errno }

// ask calls all functions with waxes but Check, and reports an error that comes with another result.
func ask(t *testing.T, l []api.BdWax, w api.BdWish, recipe []int, lots []api.BdLot, wax, number int) answers {
	t.Helper()
	var a answers
	var raise, price, melts, shrinks, why, cheap int
	var melt, shrink, prices api.Span
	var best, grams []int
	raise, a.raise = blend.Raise(l, wax, number)
	melt, shrink, price, a.value = blend.Value(l, recipe)
	melts, shrinks, a.made = blend.Made(l, recipe, lots)
	why, a.fits = blend.Fits(l, w, recipe)
	best, cheap, a.cheapest = blend.Cheapest(l, w)
	prices, a.stays = blend.Stays(l, w, recipe, wax)
	grams, a.weigh = blend.Weigh(l, recipe, number)
	for _, c := range []struct {
		e    api.Errno
		zero bool
	}{
		{a.raise, raise == 0},
		{a.value, melt == api.Span{} && shrink == api.Span{} && price == 0},
		{a.made, melts == 0 && shrinks == 0},
		{a.fits, why == 0},
		{a.cheapest, len(best) == 0 && cheap == 0},
		{a.stays, prices == api.Span{}},
		{a.weigh, len(grams) == 0},
	} {
		if c.e != api.OK && !c.zero {
			t.Errorf("%v, %v, %v, %v, %d, %d: something with an error: %v", l, w, recipe, lots, wax, number, a)
		}
	}
	return a
}

// All functions but Check return the error of the waxes first, and nothing else.
func TestTheErrorOfTheWaxesComesFirst(t *testing.T) {
	for _, c := range brokenWaxes() {
		if c.e == api.OK {
			continue
		}
		l := c.change(example())
		if a := ask(t, l, api.BdWish{}, nil, nil, 9, -1); a != (answers{c.e, c.e, c.e, c.e, c.e, c.e, c.e}) {
			t.Errorf("%s: %v", c.name, a)
		}
		if a := ask(t, l, exampleWish(), []int{4, 15, 1}, softLots(example()), 0, 4); a != (answers{c.e, c.e, c.e, c.e, c.e, c.e, c.e}) {
			t.Errorf("%s: %v", c.name, a)
		}
	}
}

// The error of a recipe, of all functions that have one; what is named after it is wrong, too.
func TestTheErrorOfARecipe(t *testing.T) {
	type wrong struct {
		recipe []int
		e      api.Errno
	}
	list := []wrong{
		{nil, api.ErrLong}, {[]int{}, api.ErrLong}, {[]int{20}, api.ErrLong}, {[]int{4, 16}, api.ErrLong}, {[]int{4, 14, 1, 1}, api.ErrLong}, {[]int{-1, 21}, api.ErrLong}, {make([]int, 100000), api.ErrLong},
		{[]int{21, 0, -1}, api.ErrRange}, {[]int{10, 11, -1}, api.ErrRange}, {[]int{-1, 0, 0}, api.ErrRange}, {[]int{0, 0, 21}, api.ErrRange}, {[]int{math.MaxInt, math.MinInt, 21}, api.ErrRange}, {[]int{math.MaxInt, math.MaxInt, 22}, api.ErrRange},
		{[]int{0, 0, 0}, api.ErrArg}, {[]int{4, 15, 0}, api.ErrArg}, {[]int{4, 15, 2}, api.ErrArg}, {[]int{20, 20, 20}, api.ErrArg}, {[]int{0, 20, 20}, api.ErrArg},
	}
	for _, n := range outside(0, 20) {
		list = append(list, wrong{[]int{n, 15, 1}, api.ErrRange}, wrong{[]int{20, 0, n}, api.ErrRange})
	}
	for _, c := range list {
		if a := ask(t, example(), exampleWish(), c.recipe, nil, 9, -1); a != (answers{api.ErrNone, c.e, c.e, c.e, api.OK, c.e, c.e}) {
			t.Errorf("%v: %v", c.recipe, a)
		}
	}
	for _, recipe := range [][]int{{20, 0, 0}, {0, 20, 0}, {0, 0, 20}, {4, 15, 1}} {
		if a := ask(t, example(), exampleWish(), recipe, nil, 9, -1); a != (answers{api.ErrNone, api.OK, api.ErrLong, api.OK, api.OK, api.ErrNone, api.ErrRange}) {
			t.Errorf("%v: %v", recipe, a)
		}
	}
}

// wrongWishes are changes of the example wish, and its error.
func wrongWishes() []struct {
	name   string
	change func(w *api.BdWish)
	e      api.Errno
} {
	type wrong = struct {
		name   string
		change func(w *api.BdWish)
		e      api.Errno
	}
	list := []wrong{
		{"the zero value", func(w *api.BdWish) { *w = api.BdWish{} }, api.ErrLong},
		{"no parts", func(w *api.BdWish) { w.Parts, w.Melt.Lo = []api.Span{}, -1 }, api.ErrLong},
		{"too few parts", func(w *api.BdWish) { w.Parts = w.Parts[:2] }, api.ErrLong},
		{"too many parts", func(w *api.BdWish) { w.Parts = append(w.Parts, span(21, -1)) }, api.ErrLong},
		{"range before order of parts", func(w *api.BdWish) { w.Parts[0], w.Parts[2] = span(2, 1), span(0, 21) }, api.ErrRange},
		{"range before order, in another range", func(w *api.BdWish) { w.Parts[0], w.Shrink = span(2, 1), span(0, 1001) }, api.ErrRange},
		{"an order of parts", func(w *api.BdWish) { w.Parts[2] = span(1, 0) }, api.ErrArg},
		{"an order of melt", func(w *api.BdWish) { w.Melt = span(561, 560) }, api.ErrArg},
		{"an order of shrink", func(w *api.BdWish) { w.Shrink = span(1000, 0) }, api.ErrArg},
	}
	add := func(name string, most int, set func(w *api.BdWish, n int)) {
		for _, n := range outside(0, most) {
			list = append(list, wrong{name, func(w *api.BdWish) { set(w, n) }, api.ErrRange})
		}
	}
	add("parts at least", 20, func(w *api.BdWish, n int) { w.Parts[1].Lo = n })
	add("parts at most", 20, func(w *api.BdWish, n int) { w.Parts[2].Hi = n })
	add("melts at least", 2000, func(w *api.BdWish, n int) { w.Melt.Lo = n })
	add("melts at most", 2000, func(w *api.BdWish, n int) { w.Melt.Hi = n })
	add("shrinks at least", 1000, func(w *api.BdWish, n int) { w.Shrink.Lo = n })
	add("shrinks at most", 1000, func(w *api.BdWish, n int) { w.Shrink.Hi = n })
	return list
}

// The error of a wish, of all functions that have one; it comes before that of the recipe.
func TestTheErrorOfAWish(t *testing.T) {
	for _, c := range wrongWishes() {
		w := exampleWish()
		c.change(&w)
		for _, recipe := range [][]int{nil, {21, 0, 0}, {0, 0, 0}, {4, 15, 1}} {
			if a := ask(t, example(), w, recipe, nil, 9, -1); a.fits != c.e || a.cheapest != c.e || a.stays != c.e {
				t.Errorf("%s: %v", c.name, a)
			}
		}
	}
	if a := ask(t, example(), open(3), []int{0, 20, 0}, nil, 0, 0); a.fits != api.OK || a.cheapest != api.OK || a.stays != api.OK {
		t.Errorf("the widest wish: %v", a)
	}
}

// Which numbers are no waxes, and that Stays says so after the error of the recipe, and before it says that this does not fit.
func TestTheErrorOfAnIndex(t *testing.T) {
	for _, n := range []int{-1, 3, 5, 64, math.MinInt, math.MaxInt} {
		for _, parts := range []int{0, -1, 21} {
			if a := ask(t, example(), exampleWish(), []int{20, 0, 0}, nil, n, parts); a.raise != api.ErrNone || a.stays != api.ErrNone {
				t.Errorf("%d: %v", n, a)
			}
		}
		if a := ask(t, example(), exampleWish(), []int{20, 0, 1}, nil, n, 0); a.stays != api.ErrArg {
			t.Errorf("%d: %v", n, a)
		}
	}
	for n := range 3 {
		if a := ask(t, example(), exampleWish(), []int{20, 0, 0}, nil, n, 0); a.raise != api.OK || a.stays != api.ErrDown {
			t.Errorf("%d: %v", n, a)
		}
	}
}

// P2.2: which parts Raise refuses.
func TestRaiseRefusesParts(t *testing.T) {
	for _, n := range outside(0, 20) {
		if x, e := blend.Raise(example(), 2, n); x != 0 || e != api.ErrRange {
			t.Errorf("%d: Raise = %d, %d", n, x, e)
		}
	}
}

// P2.3: what is no lot of its wax, also of one of which the recipe has no parts.
func TestTheErrorOfLots(t *testing.T) {
	fine := softLots(example())
	with := func(i, melt, shrink int) []api.BdLot {
		lots := slices.Clone(fine)
		lots[i] = api.BdLot{Melt: melt, Shrink: shrink}
		return lots
	}
	for i, c := range []struct {
		lots []api.BdLot
		e    api.Errno
	}{
		{nil, api.ErrLong}, {[]api.BdLot{}, api.ErrLong}, {fine[:2], api.ErrLong}, {append(slices.Clone(fine), fine[0]), api.ErrLong}, {make([]api.BdLot, 2), api.ErrLong}, {make([]api.BdLot, 100000), api.ErrLong},
		{fine, api.OK}, {hardLots(example()), api.OK}, {with(0, 640, 90), api.OK}, {with(0, 620, 100), api.OK}, {with(1, 560, 130), api.OK},
		{with(0, 619, 90), api.ErrRange}, {with(0, 641, 90), api.ErrRange}, {with(0, 620, 89), api.ErrRange}, {with(0, 620, 101), api.ErrRange}, {with(2, 689, 60), api.ErrRange}, {with(2, 700, 71), api.ErrRange}, {with(1, 0, 0), api.ErrRange}, {with(1, math.MinInt, 130), api.ErrRange}, {with(1, math.MaxInt, 130), api.ErrRange}, {with(1, 560, math.MinInt), api.ErrRange}, {with(1, 560, math.MaxInt), api.ErrRange},
	} {
		for _, recipe := range [][]int{{4, 15, 1}, {20, 0, 0}, {0, 20, 0}, {0, 0, 20}} {
			melt, shrink, e := blend.Made(example(), recipe, c.lots)
			if e != c.e || e != api.OK && (melt != 0 || shrink != 0) {
				t.Errorf("%d: Made = %d, %d, %d", i, melt, shrink, e)
			}
		}
	}
}

// P2.6: which grams Weigh refuses.
func TestWeighRefusesGrams(t *testing.T) {
	for _, n := range outside(0, 1000000) {
		if n == 1000000 {
			continue
		}
		if grams, e := blend.Weigh(example(), []int{4, 15, 1}, n); len(grams) != 0 || e != api.ErrRange {
			t.Errorf("%d: Weigh = %v, %d", n, grams, e)
		}
	}
}
