package wick_test

import (
	"slices"
	"testing"

	"stearin/api"
	"stearin/wick"
)

// candle is the candle C with another diameter.
func candle(diameter int) api.WkCandle {
	c := exampleCandle()
	c.Diameter = diameter
	return c
}

// still is a candle of a diameter without draught, and with just one Cold.
func still(diameter, cold int) api.WkCandle {
	return api.WkCandle{Diameter: diameter, Cold: span(cold, cold)}
}

// bounded is a shop with other bounds of flames and pools.
func bounded(s api.WkShop, flame, pool api.Span) api.WkShop {
	s.Flame, s.Pool = flame, pool
	return s
}

// P3.2, and the example of the chapter.
func TestAt(t *testing.T) {
	two := example()
	withTwoWaxes(func(s *api.WkShop) {
		s.Waxes[1] = api.WkWax{Name: "x", Flow: span(1, 300), Rise: span(1, 1000), Spread: span(1, 2000), Chill: 50}
		s.Wicks[2].Pull = span(1, 1000)
	})(&two)
	wild := api.WkCandle{Wax: 1, Diameter: 300, Draught: 90, Cold: span(0, 300)}
	for i, c := range []struct {
		s     api.WkShop
		wick  int
		c     api.WkCandle
		truth api.WkTruth
		want  api.WkBurn
	}{
		{example(), 1, exampleCandle(), api.WkTruth{Pull: 22, Flow: 100, Rise: 150, Spread: 1000, Draught: 0, Cold: 10}, api.WkBurn{Rate: 22000000, Flame: 33000000, Pool: 219000000}},
		{example(), 1, exampleCandle(), api.WkTruth{Pull: 20, Flow: 100, Rise: 150, Spread: 1000, Draught: -10, Cold: 20}, api.WkBurn{Rate: 18000000, Flame: 27000000, Pool: 178000000}},
		{example(), 1, exampleCandle(), api.WkTruth{Pull: 24, Flow: 100, Rise: 160, Spread: 1100, Draught: 10, Cold: 0}, api.WkBurn{Rate: 26400000, Flame: 42240000, Pool: 290400000}},
		{example(), 0, exampleCandle(), api.WkTruth{Pull: 17, Flow: 100, Rise: 151, Spread: 1003, Draught: 7, Cold: 3}, api.WkBurn{Rate: 18190000, Flame: 27466900, Pool: 182145700}},
		// The diameter does not count.
		{example(), 0, candle(2000), api.WkTruth{Pull: 17, Flow: 100, Rise: 151, Spread: 1003, Draught: 7, Cold: 3}, api.WkBurn{Rate: 18190000, Flame: 27466900, Pool: 182145700}},
		// The greatest and the least numbers; a pool can be less than nothing.
		{two, 2, wild, api.WkTruth{Pull: 1000, Flow: 300, Rise: 1000, Spread: 2000, Draught: 90, Cold: 0}, api.WkBurn{Rate: 5700000000, Flame: 57000000000, Pool: 114000000000}},
		{two, 2, wild, api.WkTruth{Pull: 1, Flow: 1, Rise: 1, Spread: 1, Draught: -90, Cold: 300}, api.WkBurn{Rate: 1000, Flame: 10, Pool: 10 - 1500000000}},
		{two, 2, wild, api.WkTruth{Pull: 1000, Flow: 300, Rise: 1, Spread: 1, Draught: 0, Cold: 300}, api.WkBurn{Rate: 3000000000, Flame: 30000000, Pool: 30000000 - 1500000000}},
		// The Chill is that of the wax of the candle.
		{two, 2, api.WkCandle{Wax: 0, Diameter: 1, Cold: span(300, 300)}, api.WkTruth{Pull: 1, Flow: 100, Rise: 150, Spread: 1000, Cold: 300}, api.WkBurn{Rate: 1000000, Flame: 1500000, Pool: 10000000 - 30000000}},
		{plain(5, 7, 11, 13, 0), 0, still(1, 300), api.WkTruth{Pull: 5, Flow: 7, Rise: 11, Spread: 13, Cold: 300}, api.WkBurn{Rate: 350000, Flame: 38500, Pool: 45500}},
	} {
		if b, e := wick.At(c.s, c.wick, c.c, c.truth); b != c.want || e != api.OK {
			t.Errorf("%d: At = %v, %d, not %v", i, b, e, c.want)
		}
	}
}

// P3.2, and the example of the chapter.
func TestBurn(t *testing.T) {
	wide := example()
	wide.Waxes[0].Flow, wide.Waxes[0].Chill = span(50, 200), 3
	for i, c := range []struct {
		s           api.WkShop
		wick        int
		c           api.WkCandle
		least, most api.WkBurn
	}{
		{example(), 1, exampleCandle(), api.WkBurn{Rate: 18000000, Flame: 27000000, Pool: 178000000}, api.WkBurn{Rate: 26400000, Flame: 42240000, Pool: 290400000}},
		{example(), 0, exampleCandle(), api.WkBurn{Rate: 14400000, Flame: 21600000, Pool: 142000000}, api.WkBurn{Rate: 19800000, Flame: 31680000, Pool: 217800000}},
		{example(), 2, candle(7), api.WkBurn{Rate: 27000000, Flame: 40500000, Pool: 268000000}, api.WkBurn{Rate: 39600000, Flame: 63360000, Pool: 435600000}},
		{example(), 1, api.WkCandle{Diameter: 300, Draught: 0, Cold: span(5, 8)}, api.WkBurn{Rate: 20000000, Flame: 30000000, Pool: 199200000}, api.WkBurn{Rate: 24000000, Flame: 38400000, Pool: 263500000}},
		{wide, 1, api.WkCandle{Diameter: 300, Draught: 90, Cold: span(100, 300)}, api.WkBurn{Rate: 1000000, Flame: 1500000, Pool: 10000000 - 90000000}, api.WkBurn{Rate: 91200000, Flame: 145920000, Pool: 1003200000 - 30000000}},
		{full(), 11, api.WkCandle{Wax: 5, Diameter: 1, Draught: 90, Cold: span(0, 300)}, api.WkBurn{Rate: 1000, Flame: 10, Pool: 10 - 1500000000}, api.WkBurn{Rate: 5700000000, Flame: 57000000000, Pool: 114000000000}},
		{plain(5, 7, 11, 13, 2), 0, still(1, 9), api.WkBurn{Rate: 350000, Flame: 38500, Pool: 45500 - 1800000}, api.WkBurn{Rate: 350000, Flame: 38500, Pool: 45500 - 1800000}},
	} {
		if least, most, e := wick.Burn(c.s, c.wick, c.c); least != c.least || most != c.most || e != api.OK {
			t.Errorf("%d: Burn = %v, %v, %d, not %v, %v", i, least, most, e, c.least, c.most)
		}
	}
}

// P3.3, P3.7, and the examples of the chapter: all faults that are so in some truth, in order, and compared exactly.
func TestFaults(t *testing.T) {
	// The flame is 20 tenths of a millimetre high, and the pool 100 wide.
	even := plain(10, 100, 200, 1000, 0)
	// The flame is just above and just below 20.
	above, below := plain(1, 1, 1000, 1000, 0), plain(1, 1, 999, 1000, 0)
	above.Wicks[0].Pull, above.Waxes[0].Flow, above.Waxes[0].Rise = span(667, 667), span(3, 3), span(100, 100)
	below.Wicks[0].Pull, below.Waxes[0].Flow, below.Waxes[0].Rise = span(666, 666), span(3, 3), span(100, 100)
	// The pool is 100 less 1.
	cold := plain(10, 100, 200, 1000, 5)
	for i, c := range []struct {
		s    api.WkShop
		wick int
		c    api.WkCandle
		want []int
	}{
		{example(), 0, exampleCandle(), []int{api.WkTunnels}},
		{example(), 1, exampleCandle(), nil},
		{example(), 2, exampleCandle(), []int{api.WkSmokes, api.WkRuns}},
		{bounded(example(), span(30, 31), span(700, 701)), 1, exampleCandle(), []int{api.WkSmokes, api.WkGoesOut, api.WkTunnels, api.WkRuns}},
		{bounded(example(), span(0, 0), span(0, 0)), 1, exampleCandle(), []int{api.WkSmokes, api.WkRuns}},
		{bounded(example(), span(2000, 2000), span(2000, 2000)), 1, exampleCandle(), []int{api.WkGoesOut, api.WkTunnels}},
		{bounded(example(), span(28, 45), span(500, 1000)), 1, exampleCandle(), []int{api.WkGoesOut}},
		{bounded(example(), span(27, 42), span(500, 1000)), 1, exampleCandle(), []int{api.WkSmokes}},
		{bounded(example(), span(27, 43), span(500, 1000)), 1, exampleCandle(), nil},
		{bounded(example(), span(27, 43), span(593, 1000)), 1, exampleCandle(), nil},
		{bounded(example(), span(27, 43), span(594, 1000)), 1, exampleCandle(), []int{api.WkTunnels}},
		{bounded(example(), span(27, 43), span(593, 968)), 1, exampleCandle(), nil},
		{bounded(example(), span(27, 43), span(593, 967)), 1, exampleCandle(), []int{api.WkRuns}},
		// At the bounds nothing is wrong.
		{bounded(even, span(20, 20), span(500, 500)), 0, still(200, 0), nil},
		{bounded(even, span(21, 30), span(500, 500)), 0, still(200, 0), []int{api.WkGoesOut}},
		{bounded(even, span(0, 19), span(500, 500)), 0, still(200, 0), []int{api.WkSmokes}},
		{bounded(even, span(20, 20), span(501, 2000)), 0, still(200, 0), []int{api.WkTunnels}},
		{bounded(even, span(20, 20), span(0, 499)), 0, still(200, 0), []int{api.WkRuns}},
		{bounded(even, span(20, 20), span(500, 500)), 0, still(201, 0), []int{api.WkTunnels}},
		{bounded(even, span(20, 20), span(500, 500)), 0, still(199, 0), []int{api.WkRuns}},
		// A part of WkScale beyond a bound is beyond it.
		{bounded(above, span(0, 20), span(0, 2000)), 0, still(300, 0), []int{api.WkSmokes}},
		{bounded(above, span(20, 21), span(0, 2000)), 0, still(300, 0), nil},
		{bounded(below, span(20, 30), span(0, 2000)), 0, still(300, 0), []int{api.WkGoesOut}},
		{bounded(below, span(19, 20), span(0, 2000)), 0, still(300, 0), nil},
		// Cold narrows the pool; with bounds of 0, less than nothing tunnels, nothing does not.
		{bounded(cold, span(0, 2000), span(500, 2000)), 0, still(200, 1), []int{api.WkTunnels}},
		{bounded(cold, span(0, 2000), span(0, 497)), 0, still(200, 1), []int{api.WkRuns}},
		{bounded(cold, span(0, 2000), span(0, 498)), 0, still(200, 1), nil},
		{bounded(cold, span(0, 2000), span(0, 0)), 0, still(200, 200), nil},
		{bounded(cold, span(0, 2000), span(0, 0)), 0, still(200, 201), []int{api.WkTunnels}},
		{bounded(cold, span(0, 2000), span(0, 0)), 0, still(200, 199), []int{api.WkRuns}},
		{bounded(cold, span(0, 2000), span(0, 2000)), 0, still(1, 199), nil},
		// Both at once, in different truths.
		{bounded(cold, span(0, 2000), span(0, 0)), 0, api.WkCandle{Diameter: 9, Cold: span(199, 201)}, []int{api.WkTunnels, api.WkRuns}},
		{full(), 0, api.WkCandle{Diameter: 2000, Draught: 90, Cold: span(0, 300)}, []int{api.WkSmokes, api.WkTunnels, api.WkRuns}},
	} {
		if l, e := wick.Faults(c.s, c.wick, c.c); !slices.Equal(l, c.want) || e != api.OK {
			t.Errorf("%d: Faults = %v, %d, not %v", i, l, e, c.want)
		}
	}
}

// alikeWicks are the example shop with wicks of these threads, all of which draw like the wick mid.
func alikeWicks(threads ...int) api.WkShop {
	s := example()
	s.Wicks = nil
	for i, n := range threads {
		s.Wicks = append(s.Wicks, api.WkWick{Name: string(rune('a' + i)), Threads: n, Pull: span(20, 24)})
	}
	return s
}

// P3.3, P3.8, and the examples of the chapter.
func TestSuitsAndThinnest(t *testing.T) {
	wide := bounded(example(), span(0, 2000), span(0, 2000))
	turned := clone(wide)
	slices.Reverse(turned.Wicks)
	mixed := alikeWicks(3, 9, 7, 7, 8)
	mixed.Wicks[0].Pull = span(16, 18)
	for i, c := range []struct {
		s        api.WkShop
		c        api.WkCandle
		suits    []int
		thinnest int
		e        api.Errno
	}{
		{example(), exampleCandle(), []int{1}, 1, api.OK},
		{example(), candle(250), []int{0}, 0, api.OK},
		{example(), candle(285), nil, 0, api.ErrDown},
		{example(), candle(284), []int{0}, 0, api.OK},
		{example(), candle(291), []int{1}, 1, api.OK},
		{example(), candle(290), nil, 0, api.ErrDown},
		{wide, exampleCandle(), []int{0, 1, 2}, 0, api.OK},
		{turned, exampleCandle(), []int{0, 1, 2}, 2, api.OK},
		// Of several with as few threads the first one; the thinnest of all does not suit.
		{alikeWicks(5, 5, 5), exampleCandle(), []int{0, 1, 2}, 0, api.OK},
		{alikeWicks(6, 5, 5), exampleCandle(), []int{0, 1, 2}, 1, api.OK},
		{alikeWicks(100, 1), exampleCandle(), []int{0, 1}, 1, api.OK},
		{mixed, exampleCandle(), []int{1, 2, 3, 4}, 2, api.OK},
		{full(), api.WkCandle{Wax: 5, Diameter: 1, Draught: 90, Cold: span(0, 300)}, nil, 0, api.ErrDown},
	} {
		if l, e := wick.Suits(c.s, c.c); !slices.Equal(l, c.suits) || e != api.OK {
			t.Errorf("%d: Suits = %v, %d, not %v", i, l, e, c.suits)
		}
		if n, e := wick.Thinnest(c.s, c.c); n != c.thinnest || e != c.e {
			t.Errorf("%d: Thinnest = %d, %d, not %d, %d", i, n, e, c.thinnest, c.e)
		}
	}
}

// P3.4, P3.9, and the examples of the chapter.
func TestSizes(t *testing.T) {
	// The flame is 20 tenths of a millimetre high, and the pool 100 wide, less 1 with each 2 of Cold.
	even := plain(10, 100, 200, 1000, 5)
	all := span(0, 2000)
	for i, c := range []struct {
		s    api.WkShop
		wick int
		c    api.WkCandle
		want api.Span
		e    api.Errno
	}{
		{example(), 0, exampleCandle(), span(218, 284), api.OK},
		{example(), 1, exampleCandle(), span(291, 356), api.OK},
		{example(), 2, exampleCandle(), span(0, 0), api.ErrDown},
		// The diameter of the candle does not count.
		{example(), 0, candle(1), span(218, 284), api.OK},
		{example(), 1, candle(2000), span(291, 356), api.OK},
		{bounded(even, all, span(500, 500)), 0, still(7, 0), span(200, 200), api.OK},
		{bounded(even, all, span(300, 500)), 0, still(7, 0), span(200, 333), api.OK},
		{bounded(even, all, span(300, 300)), 0, still(7, 0), span(0, 0), api.ErrDown},
		{bounded(even, all, span(300, 301)), 0, still(7, 0), span(333, 333), api.OK},
		{bounded(even, all, span(50, 2000)), 0, still(7, 0), span(50, 2000), api.OK},
		{bounded(even, all, span(50, 50)), 0, still(7, 0), span(2000, 2000), api.OK},
		{bounded(even, all, span(49, 49)), 0, still(7, 0), span(0, 0), api.ErrDown},
		{bounded(even, all, span(49, 50)), 0, still(7, 0), span(2000, 2000), api.OK},
		{bounded(even, all, span(0, 50)), 0, still(7, 0), span(2000, 2000), api.OK},
		{bounded(even, all, span(0, 49)), 0, still(7, 0), span(0, 0), api.ErrDown},
		{bounded(even, all, span(0, 51)), 0, still(7, 0), span(1961, 2000), api.OK},
		{bounded(even, all, span(51, 2000)), 0, still(7, 0), span(50, 1960), api.OK},
		// The pool is 2 wide, 1, half of one, nothing, and less than that.
		{bounded(even, all, span(2000, 2000)), 0, still(7, 196), span(1, 1), api.OK},
		{bounded(even, all, span(1000, 2000)), 0, still(7, 198), span(1, 1), api.OK},
		{bounded(even, all, span(1001, 2000)), 0, still(7, 198), span(0, 0), api.ErrDown},
		{bounded(even, all, span(1, 2000)), 0, still(7, 198), span(1, 1000), api.OK},
		{bounded(even, all, span(500, 2000)), 0, still(7, 199), span(1, 1), api.OK},
		{bounded(even, all, span(501, 2000)), 0, still(7, 199), span(0, 0), api.ErrDown},
		{bounded(even, all, span(0, 0)), 0, still(7, 199), span(0, 0), api.ErrDown},
		{bounded(even, all, span(0, 0)), 0, still(7, 200), span(1, 2000), api.OK},
		{bounded(even, all, span(0, 2000)), 0, still(7, 200), span(1, 2000), api.OK},
		{bounded(even, all, span(1, 2000)), 0, still(7, 200), span(0, 0), api.ErrDown},
		{bounded(even, all, span(0, 2000)), 0, still(7, 201), span(0, 0), api.ErrDown},
		{bounded(even, all, span(0, 0)), 0, still(7, 300), span(0, 0), api.ErrDown},
		// The flame.
		{bounded(even, span(20, 20), span(300, 500)), 0, still(7, 0), span(200, 333), api.OK},
		{bounded(even, span(21, 30), span(300, 500)), 0, still(7, 0), span(0, 0), api.ErrDown},
		{bounded(even, span(0, 19), span(300, 500)), 0, still(7, 0), span(0, 0), api.ErrDown},
		{full(), 3, api.WkCandle{Diameter: 7, Draught: 90}, span(0, 0), api.ErrDown},
	} {
		if x, e := wick.Sizes(c.s, c.wick, c.c); x != c.want || e != c.e {
			t.Errorf("%d: Sizes = %v, %d, not %v, %d", i, x, e, c.want, c.e)
		}
	}
}

// P3.5, and the example of the chapter.
func TestMinutes(t *testing.T) {
	for i, c := range []struct {
		s     api.WkShop
		wick  int
		c     api.WkCandle
		grams int
		want  api.Span
	}{
		{example(), 1, exampleCandle(), 100, span(2272, 3334)},
		{example(), 1, exampleCandle(), 1, span(22, 34)},
		{example(), 1, exampleCandle(), 3, span(68, 100)},
		{example(), 1, candle(1), 11, span(250, 367)},
		{example(), 1, candle(1), 33, span(750, 1100)},
		// An hour for each gram: nothing to round.
		{plain(10, 100, 1, 1, 0), 0, still(1, 0), 1, span(60, 60)},
		{plain(10, 100, 1, 1, 0), 0, still(1, 300), 100000, span(6000000, 6000000)},
		{plain(7, 100, 1, 1, 0), 0, still(1, 0), 1, span(85, 86)},
		{plain(7, 100, 1, 1, 0), 0, still(1, 0), 7, span(600, 600)},
		// The fastest and the slowest ones.
		{plain(1000, 300, 1, 1, 0), 0, api.WkCandle{Diameter: 1, Draught: 90}, 1, span(0, 2)},
		{full(), 0, api.WkCandle{Diameter: 1, Draught: 90}, 1, span(0, 600000)},
		{full(), 0, api.WkCandle{Diameter: 1, Draught: 90}, 9, span(0, 5400000)},
		{full(), 0, api.WkCandle{Diameter: 1, Draught: 90}, 10, span(1, 6000000)},
		{full(), 0, api.WkCandle{Diameter: 1, Draught: 90}, 100000, span(10526, 60000000000)},
		{plain(1, 1, 1, 1, 50), 0, still(1, 300), 100000, span(6000000000, 6000000000)},
	} {
		if m, e := wick.Minutes(c.s, c.wick, c.c, c.grams); m != c.want || e != api.OK {
			t.Errorf("%d: Minutes = %v, %d, not %v", i, m, e, c.want)
		}
	}
}
