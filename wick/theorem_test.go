package wick_test

import (
	"math/rand"
	"slices"
	"testing"

	"stearin/api"
	"stearin/wick"
)

// everyCase calls a test with cases all of whose truths are tried, and with cases with wide ranges, of whose truths the ends and some between them are tried.
func everyCase(seed int64, times int, test func(r *rand.Rand, s api.WkShop, wick int, c api.WkCandle, few int)) {
	for i, many := range []int{3, 400} {
		eachCase(seed+int64(i)*100000, times, many, func(r *rand.Rand, s api.WkShop, wick int, c api.WkCandle) {
			test(r, s, wick, c, []int{20, 2}[i])
		})
	}
}

// inside reports whether a burn is between two others.
func inside(b, least, most api.WkBurn) bool {
	return least.Rate <= b.Rate && b.Rate <= most.Rate && least.Flame <= b.Flame && b.Flame <= most.Flame && least.Pool <= b.Pool && b.Pool <= most.Pool
}

// P3.2, P3.6: in all truths the candle burns within Burn, and each end is reached.
func TestAllTruthsAreWithinBurn(t *testing.T) {
	everyCase(36, 600, func(r *rand.Rand, s api.WkShop, at int, c api.WkCandle, few int) {
		least, most, e := wick.Burn(s, at, c)
		if e != api.OK {
			t.Fatalf("%v, %d, %v: Burn: %d", s, at, c, e)
		}
		low, high, tried := most, least, 0
		for truth := range truths(s, at, c, few) {
			b := burnt(s.Waxes[c.Wax].Chill, truth)
			// All truths are held against Burn, and some of them against At.
			if tried%7 == 0 {
				if got, e := wick.At(s, at, c, truth); got != b || e != api.OK {
					t.Fatalf("%v, %d, %v, %v: At = %v, %d, not %v", s, at, c, truth, got, e, b)
				}
			}
			tried++
			if !inside(b, least, most) {
				t.Fatalf("%v, %d, %v, %v: %v; Burn = %v, %v", s, at, c, truth, b, least, most)
			}
			low = api.WkBurn{Rate: min(low.Rate, b.Rate), Flame: min(low.Flame, b.Flame), Pool: min(low.Pool, b.Pool)}
			high = api.WkBurn{Rate: max(high.Rate, b.Rate), Flame: max(high.Flame, b.Flame), Pool: max(high.Pool, b.Pool)}
		}
		if low != least || high != most {
			t.Fatalf("%v, %d, %v: Burn = %v, %v, not %v, %v", s, at, c, least, most, low, high)
		}
		for range 20 {
			truth := anyTruth(r, s, at, c)
			if b, e := wick.At(s, at, c, truth); e != api.OK || !inside(b, least, most) || b != burnt(s.Waxes[c.Wax].Chill, truth) {
				t.Fatalf("%v, %d, %v, %v: At = %v, %d; Burn = %v, %v", s, at, c, truth, b, e, least, most)
			}
		}
	})
}

// P3.3, P3.7: the faults are those that are so in some truth, and in no other one there are more.
func TestFaultsAreThoseOfAllTruths(t *testing.T) {
	seen := map[int]int{}
	everyCase(37, 2500, func(r *rand.Rand, s api.WkShop, at int, c api.WkCandle, few int) {
		want := allFaults(s, at, c, few)
		faults, e := wick.Faults(s, at, c)
		if e != api.OK || !slices.Equal(faults, want) {
			t.Fatalf("%v, %d, %v: Faults = %v, %d, not %v", s, at, c, faults, e, want)
		}
		for range 20 {
			truth := anyTruth(r, s, at, c)
			b, _ := wick.At(s, at, c, truth)
			for _, f := range wrong(s, c.Diameter, b) {
				if !slices.Contains(faults, f) {
					t.Fatalf("%v, %d, %v, %v: %d; Faults = %v", s, at, c, truth, f, faults)
				}
			}
		}
		suits, e := wick.Suits(s, c)
		if e != api.OK || slices.Contains(suits, at) != (len(faults) == 0) {
			t.Fatalf("%v, %d, %v: Faults = %v; Suits = %v, %d", s, at, c, faults, suits, e)
		}
		for _, f := range faults {
			seen[f]++
		}
		if len(faults) == 0 {
			seen[0]++
		}
	})
	for f := range 5 {
		if seen[f] < 200 {
			t.Errorf("the fault %d just %d times", f, seen[f])
		}
	}
}

// suiting are the wicks that suit a candle, tried one by one.
func suiting(s api.WkShop, c api.WkCandle, few int) []int {
	var list []int
	for i := range s.Wicks {
		if len(allFaults(s, i, c, few)) == 0 {
			list = append(list, i)
		}
	}
	return list
}

// P3.3, P3.8: the thinnest wick suits, and none with fewer threads does.
func TestNoThinnerWickSuits(t *testing.T) {
	down, several, equal := 0, 0, 0
	everyCase(38, 800, func(r *rand.Rand, s api.WkShop, at int, c api.WkCandle, few int) {
		if r.Intn(2) == 0 {
			s.Flame, s.Pool = span(min(s.Flame.Lo, 1), 2000), span(0, 2000)
		}
		list := suiting(s, c, few)
		want := -1
		for _, i := range list {
			if want < 0 || s.Wicks[i].Threads < s.Wicks[want].Threads {
				want = i
			}
		}
		if got, e := wick.Suits(s, c); !slices.Equal(got, list) || e != api.OK {
			t.Fatalf("%v, %v: Suits = %v, %d, not %v", s, c, got, e, list)
		}
		best, e := wick.Thinnest(s, c)
		if want < 0 {
			down++
			if best != 0 || e != api.ErrDown {
				t.Fatalf("%v, %v: Thinnest = %d, %d", s, c, best, e)
			}
			return
		}
		if best != want || e != api.OK {
			t.Fatalf("%v, %v: Thinnest = %d, %d, not %d", s, c, best, e, want)
		}
		for _, i := range list {
			if i > want {
				several++
			}
			if i > want && s.Wicks[i].Threads == s.Wicks[want].Threads {
				equal++
			}
		}
	})
	if down < 200 || several < 200 || equal < 30 {
		t.Errorf("just %d candles that nothing suits, %d wicks besides the thinnest one, %d as thin", down, several, equal)
	}
}

// P3.4, P3.9: with each diameter of Sizes the wick suits, with each other one it does not.
func TestSizesAreJustThoseThatSuit(t *testing.T) {
	down, some := 0, 0
	everyCase(39, 400, func(r *rand.Rand, s api.WkShop, at int, c api.WkCandle, few int) {
		if r.Intn(3) > 0 {
			s.Flame = span(0, 2000)
		}
		sizes, e := wick.Sizes(s, at, c)
		if e != api.OK && (e != api.ErrDown || sizes != api.Span{}) {
			t.Fatalf("%v, %d, %v: Sizes = %v, %d", s, at, c, sizes, e)
		}
		// Of all truths, those in which a number is least or greatest tell all that can be wrong.
		var low, high api.WkBurn
		first := true
		for truth := range truths(s, at, c, few) {
			b := burnt(s.Waxes[c.Wax].Chill, truth)
			if first {
				low, high, first = b, b, false
			}
			low.Flame, low.Pool = min(low.Flame, b.Flame), min(low.Pool, b.Pool)
			high.Flame, high.Pool = max(high.Flame, b.Flame), max(high.Pool, b.Pool)
		}
		for d := 1; d <= 2000; d++ {
			want := len(wrong(s, d, low)) == 0 && len(wrong(s, d, high)) == 0
			if got := e == api.OK && sizes.Lo <= d && d <= sizes.Hi; got != want {
				t.Fatalf("%v, %d, %v: Sizes = %v, %d; %d: %v", s, at, c, sizes, e, d, want)
			}
		}
		if e == api.OK {
			some++
		} else {
			down++
		}
		for _, d := range []int{1, sizes.Lo - 1, sizes.Lo, sizes.Hi, sizes.Hi + 1, 2000, 1 + r.Intn(2000)} {
			if d < 1 || d > 2000 {
				continue
			}
			c.Diameter = d
			suits, _ := wick.Suits(s, c)
			again, f := wick.Sizes(s, at, c)
			if slices.Contains(suits, at) != (e == api.OK && sizes.Lo <= d && d <= sizes.Hi) || again != sizes || f != e {
				t.Fatalf("%v, %d, %v: Sizes = %v, %d, and %v, %d; Suits = %v", s, at, c, sizes, e, again, f, suits)
			}
		}
	})
	if down < 100 || some < 100 {
		t.Errorf("just %d wicks that suit no diameter, %d that suit some", down, some)
	}
}

// P3.5, P3.10: so many grams burn within Minutes in all truths, and a minute more, or less, is too many in some truth.
func TestAllTruthsAreWithinMinutes(t *testing.T) {
	everyCase(310, 600, func(r *rand.Rand, s api.WkShop, at int, c api.WkCandle, few int) {
		grams := []int{1, 1 + r.Intn(100), 1 + r.Intn(100000), 100000}[r.Intn(4)]
		minutes, e := wick.Minutes(s, at, c, grams)
		if e != api.OK {
			t.Fatalf("%v, %d, %v, %d: Minutes: %d", s, at, c, grams, e)
		}
		// So many millionths of tenths of a gram, times 60, burn together; the Rate, times the minutes, is what burns of them.
		work := 10 * 60 * 1000000 * grams
		more, less := false, false
		for truth := range truths(s, at, c, few) {
			rate := burnt(s.Waxes[c.Wax].Chill, truth).Rate
			if minutes.Lo*rate > work || minutes.Hi*rate < work {
				t.Fatalf("%v, %d, %v, %d: Minutes = %v; %v", s, at, c, grams, minutes, truth)
			}
			more = more || (minutes.Lo+1)*rate > work
			less = less || (minutes.Hi-1)*rate < work
		}
		if !more || !less {
			t.Fatalf("%v, %d, %v, %d: Minutes = %v", s, at, c, grams, minutes)
		}
	})
}

// subset reports whether each number of a list is in another one.
func subset(list, of []int) bool {
	return !slices.ContainsFunc(list, func(n int) bool { return !slices.Contains(of, n) })
}

// P3.11: with less draught, a narrower cold or wider bounds no fault is added; with less draught and a narrower cold no minute is lost at least.
func TestCalm(t *testing.T) {
	fewer := 0
	eachCase(311, 3000, 400, func(r *rand.Rand, s api.WkShop, at int, c api.WkCandle) {
		before, _ := wick.Faults(s, at, c)
		minutes, _ := wick.Minutes(s, at, c, 5000)
		calm := c
		calm.Draught, calm.Cold = within(r, span(0, c.Draught)), narrower(r, c.Cold)
		wide := s
		wide.Flame, wide.Pool = wider(r, s.Flame), wider(r, s.Pool)
		inCalm, e := wick.Faults(s, at, calm)
		inWide, f := wick.Faults(wide, at, c)
		if e != api.OK || f != api.OK || !subset(inCalm, before) || !subset(inWide, before) {
			t.Fatalf("%v, %v, %d, %v, %v: %v, not %v, %d; %v, %d", s, wide, at, c, calm, before, inCalm, e, inWide, f)
		}
		if now, e := wick.Minutes(s, at, calm, 5000); e != api.OK || now.Lo < minutes.Lo || now.Hi > minutes.Hi {
			t.Fatalf("%v, %d, %v, %v: %v, not %v, %d", s, at, c, calm, minutes, now, e)
		}
		if len(inCalm) < len(before) || len(inWide) < len(before) {
			fewer++
		}
	})
	if fewer < 100 {
		t.Errorf("just %d times there are fewer faults", fewer)
	}
}

// P3.12: with more Pull, Flow or Draught all of the burn is no less; with more Cold no pool is wider, and the rest is the same.
func TestMoreOfIt(t *testing.T) {
	eachCase(312, 3000, 400, func(r *rand.Rand, s api.WkShop, at int, c api.WkCandle) {
		truth := anyTruth(r, s, at, c)
		before, _ := wick.At(s, at, c, truth)
		more, colder := truth, truth
		more.Pull = within(r, span(truth.Pull, s.Wicks[at].Pull.Hi))
		more.Flow = within(r, span(truth.Flow, s.Waxes[c.Wax].Flow.Hi))
		more.Draught = within(r, span(truth.Draught, c.Draught))
		colder.Cold = within(r, span(truth.Cold, c.Cold.Hi))
		a, e := wick.At(s, at, c, more)
		b, f := wick.At(s, at, c, colder)
		if e != api.OK || f != api.OK || a.Rate < before.Rate || a.Flame < before.Flame || a.Pool < before.Pool {
			t.Fatalf("%v, %d, %v: %v: %v; %v: %v, %d", s, at, c, truth, before, more, a, e)
		}
		if b.Pool > before.Pool || b.Rate != before.Rate || b.Flame != before.Flame {
			t.Fatalf("%v, %d, %v: %v: %v; %v: %v", s, at, c, truth, before, colder, b)
		}
		if more.Pull > truth.Pull && a.Rate == before.Rate {
			t.Fatalf("%v, %d, %v: %v: %v; %v: %v", s, at, c, truth, before, more, a)
		}
	})
}

// P3.12: twice the grams burn twice as long, but for the rounding.
func TestTwiceTheGrams(t *testing.T) {
	eachCase(3122, 2000, 400, func(r *rand.Rand, s api.WkShop, at int, c api.WkCandle) {
		grams := 1 + r.Intn([]int{5, 50000}[r.Intn(2)])
		once, e := wick.Minutes(s, at, c, grams)
		twice, f := wick.Minutes(s, at, c, 2*grams)
		if e != api.OK || f != api.OK || twice.Lo < 2*once.Lo || twice.Lo > 2*once.Lo+1 || twice.Hi > 2*once.Hi || twice.Hi < 2*once.Hi-1 {
			t.Fatalf("%v, %d, %v, %d: %v, %d; %v, %d", s, at, c, grams, once, e, twice, f)
		}
	})
}

// P3.13: in another order of the wicks, and of the waxes, the same ones suit, and all else about them is the same.
func TestWicksInAnyOrder(t *testing.T) {
	eachCase(313, 1000, 400, func(r *rand.Rand, s api.WkShop, at int, c api.WkCandle) {
		if r.Intn(2) == 0 {
			s.Flame, s.Pool = wider(r, s.Flame), wider(r, s.Pool)
		}
		turned, candle := clone(s), c
		places := r.Perm(len(s.Wicks))
		for i, place := range places {
			turned.Wicks[place] = s.Wicks[i]
		}
		for i, place := range r.Perm(len(s.Waxes)) {
			turned.Waxes[place] = s.Waxes[i]
			if i == c.Wax {
				candle.Wax = place
			}
		}
		suits, _ := wick.Suits(s, c)
		var want []int
		for _, i := range suits {
			want = append(want, places[i])
		}
		slices.Sort(want)
		if got, e := wick.Suits(turned, candle); !slices.Equal(got, want) || e != api.OK {
			t.Fatalf("%v, %v: Suits = %v, %d, not %v", turned, candle, got, e, want)
		}
		best, e := wick.Thinnest(s, c)
		other, f := wick.Thinnest(turned, candle)
		if e != f || e == api.OK && s.Wicks[best].Threads != turned.Wicks[other].Threads {
			t.Fatalf("%v, %v: Thinnest = %d, %d; %v, %v: %d, %d", s, c, best, e, turned, candle, other, f)
		}
		least, most, _ := wick.Burn(s, at, c)
		if l, m, e := wick.Burn(turned, places[at], candle); l != least || m != most || e != api.OK {
			t.Fatalf("%v, %v: Burn = %v, %v, %d, not %v, %v", turned, candle, l, m, e, least, most)
		}
	})
}
