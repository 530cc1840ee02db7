package blend_test

import (
	"slices"
	"testing"

	"stearin/api"
	"stearin/blend"
)

// single are waxes that cost so much, all of which melt at 600 and shrink by 100.
func single(prices ...int) []api.BdWax {
	var l []api.BdWax
	for i, n := range prices {
		l = append(l, api.BdWax{Name: string(rune('a' + i)), Price: n, Melt: span(600, 600), Shrink: span(100, 100)})
	}
	return l
}

// P2.2, P2.13, and the examples of the chapter.
func TestRaiseFollowsTheCurve(t *testing.T) {
	for i, c := range []struct {
		curve []api.BdPoint
		parts int
		want  int
	}{
		{example()[2].Curve, 0, 0}, {example()[2].Curve, 1, 10}, {example()[2].Curve, 2, 20}, {example()[2].Curve, 3, 25}, {example()[2].Curve, 4, 30}, {example()[2].Curve, 5, 30}, {example()[2].Curve, 20, 30},
		{nil, 0, 0}, {nil, 20, 0}, {[]api.BdPoint{}, 7, 0},
		// One point is everywhere.
		{points(7, -5), 0, -5}, {points(7, -5), 7, -5}, {points(7, -5), 20, -5},
		// Below the first point, also with no parts, and above the last one.
		{points(3, 8, 5, 12), 0, 8}, {points(3, 8, 5, 12), 2, 8}, {points(3, 8, 5, 12), 6, 12},
		// Rounded down, also below 0, and whether the line rises or falls.
		{points(0, 0, 3, 1), 1, 0}, {points(0, 0, 3, 1), 2, 0}, {points(0, 0, 3, 2), 1, 0}, {points(0, 0, 3, 2), 2, 1},
		{points(0, 0, 3, -1), 1, -1}, {points(0, 0, 3, -1), 2, -1}, {points(0, 0, 3, -2), 1, -1}, {points(0, 0, 3, -2), 2, -2}, {points(0, 0, 3, -1), 3, -1},
		{points(0, -1, 3, 0), 1, -1}, {points(0, -1, 3, 0), 2, -1}, {points(0, -1, 3, 0), 3, 0}, {points(0, 1, 3, 0), 1, 0}, {points(0, 1, 3, 0), 2, 0}, {points(0, 1, 3, -1), 1, 0}, {points(0, 1, 3, -1), 2, -1},
		{points(0, -10, 2, -15), 1, -13}, {points(0, -3, 4, -6), 2, -5},
		// The longest and the steepest lines.
		{points(0, -300, 20, 300), 1, -270}, {points(0, 300, 20, -300), 19, -270}, {points(0, 300, 19, -300), 10, -16}, {points(10, -300, 11, 300, 12, -300), 10, -300}, {points(10, -300, 11, 300, 12, -300), 11, 300}, {points(10, -300, 11, 300, 12, -300), 12, -300},
	} {
		l := example()
		l[1].Curve = c.curve
		if x, e := blend.Raise(l, 1, c.parts); x != c.want || e != api.OK {
			t.Errorf("%d: Raise of %v: %d = %d, %d, not %d", i, c.curve, c.parts, x, e, c.want)
		}
	}
}

// P2.3, and the examples of the chapter.
func TestValueAndMade(t *testing.T) {
	// What is raised with no parts of a wax counts, too.
	first := example()
	first[2].Curve = points(3, 7, 4, 9)
	falls := example()
	falls[0].Curve, falls[1].Curve = points(0, -300), points(0, -300)
	falls[0].Melt, falls[1].Melt, falls[2].Melt = span(0, 1), span(2, 3), span(4, 5)
	for i, c := range []struct {
		l                     []api.BdWax
		recipe                []int
		melt, shrink          api.Span
		price                 int
		lots                  []api.BdLot
		madeMelts, madeShrink int
	}{
		{example(), []int{4, 15, 1}, span(11470, 12160), span(2070, 2720), 8200, []api.BdLot{{Melt: 630, Shrink: 90}, {Melt: 560, Shrink: 130}, {Melt: 700, Shrink: 60}}, 11820, 2370},
		{example(), []int{4, 16, 0}, span(11120, 11840), span(2120, 2800), 8000, []api.BdLot{{Melt: 640, Shrink: 100}, {Melt: 540, Shrink: 150}, {Melt: 690, Shrink: 70}}, 11200, 2800},
		{example(), []int{20, 0, 0}, span(12400, 12800), span(1800, 2000), 24000, softLots(example()), 12400, 1800},
		{example(), []int{0, 0, 20}, span(14400, 14600), span(1200, 1400), 8000, hardLots(example()), 14600, 1400},
		{first, []int{4, 16, 0}, span(11260, 11980), span(2120, 2800), 8000, softLots(first), 11260, 2120},
		{falls, []int{10, 10, 0}, span(-11980, -11960), span(2000, 2500), 14000, hardLots(falls), -11960, 2500},
		{full(), []int{4, 4, 4, 4, 4}, span(40000-20*5*263, 40000-20*5*263), span(20000, 20000), 2000000, softLots(full()), 40000 - 20*5*263, 20000},
		{single(7), []int{20}, span(12000, 12000), span(2000, 2000), 140, softLots(single(7)), 12000, 2000},
	} {
		melt, shrink, price, e := blend.Value(c.l, c.recipe)
		if melt != c.melt || shrink != c.shrink || price != c.price || e != api.OK {
			t.Errorf("%d: Value = %v, %v, %d, %d", i, melt, shrink, price, e)
		}
		if melts, shrinks, e := blend.Made(c.l, c.recipe, c.lots); melts != c.madeMelts || shrinks != c.madeShrink || e != api.OK {
			t.Errorf("%d: Made = %d, %d, %d", i, melts, shrinks, e)
		}
	}
}

// wished is the example wish with a change.
func wished(change func(w *api.BdWish)) api.BdWish {
	w := exampleWish()
	change(&w)
	return w
}

// P2.4, and the examples of the chapter. 4, 15, 1 melts at 573.5 to 608, and shrinks by 103.5 to 136.
func TestFitsNamesTheFirstReason(t *testing.T) {
	for i, c := range []struct {
		w      api.BdWish
		recipe []int
		want   int
	}{
		{exampleWish(), []int{4, 15, 1}, api.BdFits}, {exampleWish(), []int{4, 16, 0}, api.BdSoft}, {exampleWish(), []int{4, 14, 2}, api.BdParts}, {exampleWish(), []int{5, 15, 0}, api.BdFits}, {exampleWish(), []int{5, 14, 1}, api.BdFits}, {exampleWish(), []int{3, 16, 1}, api.BdParts}, {exampleWish(), []int{6, 13, 1}, api.BdParts}, {exampleWish(), []int{0, 0, 20}, api.BdParts},
		{wished(func(w *api.BdWish) { w.Melt.Lo = 573 }), []int{4, 15, 1}, api.BdFits}, {wished(func(w *api.BdWish) { w.Melt.Lo = 574 }), []int{4, 15, 1}, api.BdSoft}, {wished(func(w *api.BdWish) { w.Melt.Lo = 556 }), []int{4, 16, 0}, api.BdFits}, {wished(func(w *api.BdWish) { w.Melt.Lo = 557 }), []int{4, 16, 0}, api.BdSoft},
		{wished(func(w *api.BdWish) { w.Melt.Hi = 608 }), []int{4, 15, 1}, api.BdFits}, {wished(func(w *api.BdWish) { w.Melt.Hi = 607 }), []int{4, 15, 1}, api.BdHard},
		{wished(func(w *api.BdWish) { w.Shrink.Hi = 136 }), []int{4, 15, 1}, api.BdFits}, {wished(func(w *api.BdWish) { w.Shrink.Hi = 135 }), []int{4, 15, 1}, api.BdShrinks}, {wished(func(w *api.BdWish) { w.Shrink.Lo = 103 }), []int{4, 15, 1}, api.BdFits}, {wished(func(w *api.BdWish) { w.Shrink.Lo = 104 }), []int{4, 15, 1}, api.BdShrinks},
		// Several reasons: the first one.
		{wished(func(w *api.BdWish) { w.Parts[1], w.Melt, w.Shrink = span(0, 14), span(600, 600), span(0, 0) }), []int{4, 15, 1}, api.BdParts}, {wished(func(w *api.BdWish) { w.Parts[1], w.Melt, w.Shrink = span(15, 15), span(600, 600), span(0, 0) }), []int{4, 15, 1}, api.BdSoft}, {wished(func(w *api.BdWish) { w.Melt, w.Shrink = span(573, 600), span(0, 0) }), []int{4, 15, 1}, api.BdHard}, {wished(func(w *api.BdWish) { w.Parts[1] = span(16, 20) }), []int{4, 15, 1}, api.BdParts},
	} {
		if why, e := blend.Fits(example(), c.w, c.recipe); why != c.want || e != api.OK {
			t.Errorf("%d: Fits of %v = %d, %d, not %d", i, c.recipe, why, e, c.want)
		}
	}
}

// P2.5, and the example of the chapter.
func TestCheapestIsTheFirstOfTheCheapestOnes(t *testing.T) {
	parts := func(w api.BdWish, ranges ...api.Span) api.BdWish {
		w.Parts = ranges
		return w
	}
	for i, c := range []struct {
		l      []api.BdWax
		w      api.BdWish
		recipe []int
		price  int
		e      api.Errno
	}{
		{example(), exampleWish(), []int{4, 15, 1}, 8200, api.OK},
		{example(), wished(func(w *api.BdWish) { w.Parts[2] = span(0, 0) }), []int{5, 15, 0}, 9000, api.OK},
		{example(), wished(func(w *api.BdWish) { w.Melt.Lo = 551 }), []int{4, 16, 0}, 8000, api.OK},
		{example(), open(3), []int{0, 20, 0}, 4000, api.OK},
		// Equal ones: that with fewer parts of the first wax, then of the next one.
		{single(7, 7, 7), open(3), []int{0, 0, 20}, 140, api.OK},
		{single(7, 7, 7), parts(open(3), span(1, 20), span(2, 20), span(0, 5)), []int{1, 14, 5}, 140, api.OK},
		{single(7, 7, 8), open(3), []int{0, 20, 0}, 140, api.OK},
		{single(7, 8, 7), open(3), []int{0, 0, 20}, 140, api.OK},
		{single(7, 8, 8), open(3), []int{20, 0, 0}, 140, api.OK},
		{single(7, 8, 9), parts(open(3), span(0, 10), span(0, 20), span(0, 20)), []int{10, 10, 0}, 150, api.OK},
		// 10, 0, 10 costs as much as 9, 2, 9 and 0, 20, 0.
		{single(7, 8, 9), parts(open(3), span(0, 10), span(0, 20), span(10, 20)), []int{10, 0, 10}, 160, api.OK},
		{single(7, 8, 9), parts(open(3), span(0, 1), span(0, 20), span(1, 20)), []int{1, 18, 1}, 160, api.OK},
		{single(0, 0), open(2), []int{0, 20}, 0, api.OK},
		{single(5), open(1), []int{20}, 100, api.OK},
		// All prices are as high as they can be.
		{single(100000, 100000, 100000, 100000, 100000), open(5), []int{0, 0, 0, 0, 20}, 2000000, api.OK},
		// None fits: the parts are too few, too many; too soft, too hard; the shrinkage.
		{single(5), parts(open(1), span(0, 19)), nil, 0, api.ErrDown},
		{single(5, 6), parts(open(2), span(0, 9), span(0, 10)), nil, 0, api.ErrDown},
		{single(5, 6), parts(open(2), span(11, 20), span(10, 20)), nil, 0, api.ErrDown},
		{single(5, 6), parts(open(2), span(0, 10), span(0, 10)), []int{10, 10}, 110, api.OK},
		{single(5, 6), parts(open(2), span(10, 20), span(10, 20)), []int{10, 10}, 110, api.OK},
		{single(5), api.BdWish{Parts: []api.Span{span(20, 20)}, Melt: span(600, 600), Shrink: span(100, 100)}, []int{20}, 100, api.OK},
		{single(5), api.BdWish{Parts: []api.Span{span(20, 20)}, Melt: span(601, 2000), Shrink: span(100, 100)}, nil, 0, api.ErrDown},
		{single(5), api.BdWish{Parts: []api.Span{span(20, 20)}, Melt: span(0, 599), Shrink: span(100, 100)}, nil, 0, api.ErrDown},
		{single(5), api.BdWish{Parts: []api.Span{span(20, 20)}, Melt: span(600, 600), Shrink: span(101, 101)}, nil, 0, api.ErrDown},
		{single(5), api.BdWish{Parts: []api.Span{span(20, 20)}, Melt: span(600, 600), Shrink: span(99, 99)}, nil, 0, api.ErrDown},
	} {
		if recipe, price, e := blend.Cheapest(c.l, c.w); !slices.Equal(recipe, c.recipe) || price != c.price || e != c.e {
			t.Errorf("%d: Cheapest = %v, %d, %d, not %v, %d, %d", i, recipe, price, e, c.recipe, c.price, c.e)
		}
	}
}

// P2.5, and the examples of the chapter.
func TestStaysReturnsThePrices(t *testing.T) {
	dear := example()
	dear[0].Price = 100
	for i, c := range []struct {
		l      []api.BdWax
		w      api.BdWish
		recipe []int
		wax    int
		want   api.Span
		e      api.Errno
	}{
		{example(), exampleWish(), []int{4, 15, 1}, 0, span(400, 100000), api.OK},
		{example(), exampleWish(), []int{4, 15, 1}, 1, span(0, 1200), api.OK},
		{example(), exampleWish(), []int{4, 15, 1}, 2, span(0, 1200), api.OK},
		// The own price of the wax does not count, but those of the others do.
		{dear, exampleWish(), []int{4, 15, 1}, 0, span(400, 100000), api.OK},
		{dear, exampleWish(), []int{4, 15, 1}, 1, span(0, 0), api.ErrDown},
		{dear, exampleWish(), []int{4, 15, 1}, 2, span(0, 0), api.ErrDown},
		{dear, exampleWish(), []int{5, 14, 1}, 2, span(0, 200), api.OK},
		{dear, exampleWish(), []int{5, 15, 0}, 2, span(200, 100000), api.OK},
		// The other ones that fit: 5, 15, 0 is the cheapest one up to 400, 5, 14, 1 with no price of bees.
		{example(), exampleWish(), []int{5, 15, 0}, 0, span(0, 400), api.OK},
		{example(), exampleWish(), []int{5, 15, 0}, 1, span(0, 0), api.ErrDown},
		{example(), exampleWish(), []int{5, 15, 0}, 2, span(1200, 100000), api.OK},
		{example(), exampleWish(), []int{5, 14, 1}, 0, span(0, 0), api.ErrDown},
		{example(), exampleWish(), []int{5, 14, 1}, 1, span(1200, 100000), api.OK},
		// What does not fit: too soft, and not with these parts.
		{example(), exampleWish(), []int{4, 16, 0}, 0, span(0, 0), api.ErrDown},
		{example(), exampleWish(), []int{4, 14, 2}, 0, span(0, 0), api.ErrDown},
		// Just one price, also at the ends; as cheap as others.
		{single(7, 7), open(2), []int{1, 19}, 0, span(7, 7), api.OK},
		{single(7, 7), open(2), []int{1, 19}, 1, span(7, 7), api.OK},
		{single(7, 0), open(2), []int{1, 19}, 0, span(0, 0), api.OK},
		{single(7, 100000), open(2), []int{1, 19}, 0, span(100000, 100000), api.OK},
		{single(7, 9), open(2), []int{20, 0}, 0, span(0, 9), api.OK},
		{single(7, 9), open(2), []int{0, 20}, 0, span(9, 100000), api.OK},
		{single(7, 100000), open(2), []int{20, 0}, 0, span(0, 100000), api.OK},
		{single(7, 0), open(2), []int{0, 20}, 0, span(0, 100000), api.OK},
		// Two bounds that leave nothing between them: a from 8 on, and up to 7.
		{single(0, 7, 8), open(3), []int{10, 5, 5}, 0, span(0, 0), api.ErrDown},
		// The same number of parts of this wax, and a dearer one besides: with no price.
		{single(1, 2, 3), open(3), []int{10, 5, 5}, 0, span(0, 0), api.ErrDown},
		// The only one that fits: with any price.
		{single(5), open(1), []int{20}, 0, span(0, 100000), api.OK},
	} {
		if s, e := blend.Stays(c.l, c.w, c.recipe, c.wax); s != c.want || e != c.e {
			t.Errorf("%d: Stays of %v, %d = %v, %d, not %v, %d", i, c.recipe, c.wax, s, e, c.want, c.e)
		}
	}
}

// P2.5: the least and the greatest price are rounded to the inner side.
func TestStaysRoundsToTheInnerSide(t *testing.T) {
	// Just 0, 20, 0 and 3, 0, 17 fit: all others raise the melting point.
	w := api.BdWish{Parts: []api.Span{span(0, 3), span(0, 20), span(0, 20)}, Melt: span(600, 600), Shrink: span(0, 1000)}
	l := single(0, 10, 0)
	l[0].Curve, l[1].Curve, l[2].Curve = points(0, 0, 1, 1, 2, 1, 3, 0), points(0, 0, 1, 1, 19, 1, 20, 0), points(0, 0, 1, 1, 16, 1, 17, 0, 18, 1)
	for i, c := range []struct {
		second, third int
		recipe        []int
		want          api.Span
		e             api.Errno
	}{
		// 20 times the second price against 17 times the third one, and 3 times that of the first wax.
		{10, 0, []int{3, 0, 17}, span(0, 66), api.OK}, {10, 0, []int{0, 20, 0}, span(67, 100000), api.OK},
		{10, 1, []int{3, 0, 17}, span(0, 61), api.OK}, {10, 1, []int{0, 20, 0}, span(61, 100000), api.OK},
		{10, 11, []int{3, 0, 17}, span(0, 4), api.OK}, {10, 11, []int{0, 20, 0}, span(5, 100000), api.OK},
		{10, 12, []int{3, 0, 17}, span(0, 0), api.ErrDown}, {10, 12, []int{0, 20, 0}, span(0, 100000), api.OK},
		// With 220 against 221, and with 240 against 238.
		{11, 13, []int{3, 0, 17}, span(0, 0), api.ErrDown}, {11, 13, []int{0, 20, 0}, span(0, 100000), api.OK},
		{12, 14, []int{3, 0, 17}, span(0, 0), api.OK}, {12, 14, []int{0, 20, 0}, span(1, 100000), api.OK},
	} {
		l[1].Price, l[2].Price = c.second, c.third
		if s, e := blend.Stays(l, w, c.recipe, 0); s != c.want || e != c.e {
			t.Errorf("%d: Stays of %v = %v, %d, not %v, %d", i, c.recipe, s, e, c.want, c.e)
		}
	}
}

// P2.6, and the examples of the chapter.
func TestWeighAddsUp(t *testing.T) {
	for i, c := range []struct {
		recipe []int
		grams  int
		want   []int
	}{
		{[]int{4, 15, 1}, 1000, []int{200, 750, 50}}, {[]int{4, 15, 1}, 1001, []int{200, 750, 51}}, {[]int{4, 15, 1}, 0, []int{0, 0, 0}}, {[]int{4, 15, 1}, 1, []int{0, 0, 1}}, {[]int{4, 15, 1}, 19, []int{3, 15, 1}}, {[]int{4, 15, 1}, 1000000, []int{200000, 750000, 50000}}, {[]int{7, 6, 7}, 999999, []int{349999, 300000, 350000}}, {[]int{0, 20, 0}, 7, []int{0, 7, 0}}, {[]int{20, 0, 0}, 999999, []int{999999, 0, 0}}, {[]int{0, 0, 20}, 3, []int{0, 0, 3}}, {[]int{7, 7, 6}, 1, []int{0, 0, 1}}, {[]int{7, 7, 6}, 2, []int{0, 1, 1}}, {[]int{7, 7, 6}, 10, []int{3, 4, 3}},
	} {
		if grams, e := blend.Weigh(example(), c.recipe, c.grams); !slices.Equal(grams, c.want) || e != api.OK {
			t.Errorf("%d: Weigh of %v, %d = %v, %d, not %v", i, c.recipe, c.grams, grams, e, c.want)
		}
	}
}
