package wick_test

import (
	"iter"
	"math"
	"math/rand"
	"slices"
	"strings"

	"stearin/api"
)

// span is the range from one number to another one.
func span(lo, hi int) api.Span { return api.Span{Lo: lo, Hi: hi} }

// example is the shop S of the chapter.
func example() api.WkShop {
	return api.WkShop{
		Wicks: []api.WkWick{
			{Name: "thin", Threads: 10, Pull: span(16, 18)},
			{Name: "mid", Threads: 14, Pull: span(20, 24)},
			{Name: "fat", Threads: 20, Pull: span(30, 36)},
		},
		Waxes: []api.WkWax{{Name: "bees", Flow: span(100, 100), Rise: span(150, 160), Spread: span(1000, 1100), Chill: 1}},
		Flame: span(20, 45),
		Pool:  span(500, 1000),
	}
}

// exampleCandle is the candle C of the chapter.
func exampleCandle() api.WkCandle {
	return api.WkCandle{Wax: 0, Diameter: 300, Draught: 10, Cold: span(0, 20)}
}

// plain is a shop with one wick and one wax, all of whose ranges are single numbers, and which is bounded by nothing but 0 and the limits.
func plain(pull, flow, rise, spread, chill int) api.WkShop {
	return api.WkShop{
		Wicks: []api.WkWick{{Name: "w", Threads: 1, Pull: span(pull, pull)}},
		Waxes: []api.WkWax{{Name: "x", Flow: span(flow, flow), Rise: span(rise, rise), Spread: span(spread, spread), Chill: chill}},
		Flame: span(0, 2000),
		Pool:  span(0, 2000),
	}
}

// full is a shop with as much as there can be, with the longest names and the widest ranges.
func full() api.WkShop {
	s := api.WkShop{Flame: span(0, 2000), Pool: span(0, 2000)}
	for i := range 12 {
		s.Wicks = append(s.Wicks, api.WkWick{Name: strings.Repeat("w", 19) + string(rune('a'+i)), Threads: 100, Pull: span(1, 1000)})
	}
	for i := range 6 {
		s.Waxes = append(s.Waxes, api.WkWax{Name: strings.Repeat("x", 19) + string(rune('a'+i)), Flow: span(1, 300), Rise: span(1, 1000), Spread: span(1, 2000), Chill: 50})
	}
	return s
}

// clone is a copy of a shop that shares no memory with it.
func clone(s api.WkShop) api.WkShop {
	s.Wicks, s.Waxes = slices.Clone(s.Wicks), slices.Clone(s.Waxes)
	return s
}

// outside are numbers of which none is from least to most.
func outside(least, most int) []int {
	return []int{least - 1, most + 1, least - 1000000, most + 1000000, math.MinInt, math.MaxInt, math.MinInt32, math.MaxInt32}
}

// burnt is how a wax burns in a truth, by the definition, from what it burns in an hour on.
func burnt(chill int, t api.WkTruth) api.WkBurn {
	drawn := t.Pull * t.Flow * (100 + t.Draught)
	return api.WkBurn{Rate: drawn * 100, Flame: drawn * t.Rise, Pool: drawn*t.Spread - t.Cold*chill*100000}
}

// wrong are the faults of a candle of a diameter that burns like this.
func wrong(s api.WkShop, diameter int, b api.WkBurn) []int {
	var list []int
	if b.Flame > 1000000*s.Flame.Hi {
		list = append(list, 1)
	}
	if b.Flame < 1000000*s.Flame.Lo {
		list = append(list, 2)
	}
	// The Pool, times 1000, against the parts of the Diameter, both times WkScale.
	if 1000*b.Pool < 1000000*s.Pool.Lo*diameter {
		list = append(list, 3)
	}
	if 1000*b.Pool > 1000000*s.Pool.Hi*diameter {
		list = append(list, 4)
	}
	return list
}

// numbers are those of a range: all of them if they are no more than few, which is at least 2, or its ends and some between them.
func numbers(s api.Span, few int) []int {
	if s.Hi < s.Lo+few {
		var all []int
		for n := s.Lo; n <= s.Hi; n++ {
			all = append(all, n)
		}
		return all
	}
	return []int{s.Lo, s.Lo + 1, (s.Lo + s.Hi) / 2, s.Hi}
}

// truths yields the truths of a candle with a wick: all of them if no range has more numbers than few, or else those with its ends and some numbers between them.
func truths(s api.WkShop, wick int, c api.WkCandle, few int) iter.Seq[api.WkTruth] {
	wax := s.Waxes[c.Wax]
	return func(yield func(api.WkTruth) bool) {
		for _, pull := range numbers(s.Wicks[wick].Pull, few) {
			for _, flow := range numbers(wax.Flow, few) {
				for _, rise := range numbers(wax.Rise, few) {
					for _, spread := range numbers(wax.Spread, few) {
						for _, draught := range numbers(span(-c.Draught, c.Draught), few) {
							for _, cold := range numbers(c.Cold, few) {
								if !yield(api.WkTruth{Pull: pull, Flow: flow, Rise: rise, Spread: spread, Draught: draught, Cold: cold}) {
									return
								}
							}
						}
					}
				}
			}
		}
	}
}

// allFaults are the faults of a candle with a wick in all these truths, ascending.
func allFaults(s api.WkShop, wick int, c api.WkCandle, few int) []int {
	var list []int
	for t := range truths(s, wick, c, few) {
		list = append(list, wrong(s, c.Diameter, burnt(s.Waxes[c.Wax].Chill, t))...)
	}
	slices.Sort(list)
	return slices.Compact(list)
}

// within is a random number of a range, often one of its ends.
func within(r *rand.Rand, s api.Span) int {
	switch r.Intn(4) {
	case 0:
		return s.Lo
	case 1:
		return s.Hi
	}
	return s.Lo + r.Intn(s.Hi-s.Lo+1)
}

// part is a random range within another one, with at most so many numbers.
func part(r *rand.Rand, s api.Span, most int) api.Span {
	lo := within(r, s)
	return span(lo, min(s.Hi, lo+r.Intn(most)))
}

// narrower is a random range within another one.
func narrower(r *rand.Rand, s api.Span) api.Span {
	a, b := within(r, s), within(r, s)
	return span(min(a, b), max(a, b))
}

// wider is a random range from 0 to 2000 that contains another one.
func wider(r *rand.Rand, s api.Span) api.Span {
	return span(within(r, span(0, s.Lo)), within(r, span(s.Hi, 2000)))
}

// anyTruth is a random truth of a candle with a wick.
func anyTruth(r *rand.Rand, s api.WkShop, wick int, c api.WkCandle) api.WkTruth {
	wax := s.Waxes[c.Wax]
	return api.WkTruth{
		Pull:    within(r, s.Wicks[wick].Pull),
		Flow:    within(r, wax.Flow),
		Rise:    within(r, wax.Rise),
		Spread:  within(r, wax.Spread),
		Draught: within(r, span(-c.Draught, c.Draught)),
		Cold:    within(r, c.Cold),
	}
}

// anyWax is a random wax; its ranges have at most so many numbers.
func anyWax(r *rand.Rand, name string, many int) api.WkWax {
	return api.WkWax{
		Name:   name,
		Flow:   part(r, span(60, 140), many),
		Rise:   part(r, span(80, 200), many),
		Spread: part(r, span(600, 1500), many),
		Chill:  []int{0, 1, within(r, span(0, 50))}[r.Intn(3)],
	}
}

// anyShop is a random shop; the ranges of its wicks and waxes have at most so many numbers.
func anyShop(r *rand.Rand, many int) api.WkShop {
	s := api.WkShop{Flame: span(0, 2000), Pool: span(0, 2000)}
	for i := range 1 + r.Intn(6) {
		s.Wicks = append(s.Wicks, api.WkWick{Name: "w-" + string(rune('a'+i)), Threads: 1 + r.Intn(8), Pull: part(r, span(1, 60), many)})
	}
	for i := range 1 + r.Intn(3) {
		s.Waxes = append(s.Waxes, anyWax(r, "x-"+string(rune('a'+i)), many))
	}
	if r.Intn(10) == 0 {
		s.Wicks[0].Pull, s.Waxes[0].Flow, s.Waxes[0].Rise, s.Waxes[0].Spread = part(r, span(1, 1000), many), part(r, span(1, 300), many), part(r, span(1, 1000), many), part(r, span(1, 2000), many)
	}
	return s
}

// bound is a random bound, in units, near a number: below, at, or above it; or it is at a limit.
func bound(r *rand.Rand, n, unit int) int {
	return max(0, min(2000, []int{n/unit - 1, n / unit, n/unit + 1, 0, 2000}[r.Intn(5)]))
}

// anyCase is a random shop, one of its wicks and a candle. The bounds are often just at what the candle with this wick, or another one, does.
func anyCase(r *rand.Rand, many int) (api.WkShop, int, api.WkCandle) {
	s := anyShop(r, many)
	c := api.WkCandle{Wax: r.Intn(len(s.Waxes)), Diameter: 1 + r.Intn(400), Cold: part(r, span(0, 300), many)}
	if r.Intn(4) > 0 {
		c.Draught = within(r, span(0, min(90, 3*many)))
	}
	if r.Intn(2) == 0 {
		c.Cold = part(r, span(0, 20), many)
	}
	wick, other := r.Intn(len(s.Wicks)), r.Intn(len(s.Wicks))
	var least, most api.WkBurn
	seen := false
	for i := range 40 {
		b := burnt(s.Waxes[c.Wax].Chill, anyTruth(r, s, []int{wick, other}[i%2], c))
		if !seen {
			least, most, seen = b, b, true
		}
		least.Flame, most.Flame = min(least.Flame, b.Flame), max(most.Flame, b.Flame)
		least.Pool, most.Pool = min(least.Pool, b.Pool), max(most.Pool, b.Pool)
	}
	if r.Intn(2) == 0 {
		c.Diameter = max(1, min(2000, most.Pool/1000000+r.Intn(5)-2))
	}
	s.Flame = ordered(bound(r, least.Flame, 1000000), bound(r, most.Flame, 1000000))
	s.Pool = ordered(bound(r, least.Pool, 1000*c.Diameter), bound(r, most.Pool, 1000*c.Diameter))
	return s, wick, c
}

// ordered is the range between two numbers.
func ordered(a, b int) api.Span { return span(min(a, b), max(a, b)) }

// eachCase calls a test with random shops, wicks and candles.
func eachCase(seed int64, times, many int, test func(r *rand.Rand, s api.WkShop, wick int, c api.WkCandle)) {
	r := rand.New(rand.NewSource(seed))
	for range times {
		s, wick, c := anyCase(r, many)
		test(r, s, wick, c)
	}
}
