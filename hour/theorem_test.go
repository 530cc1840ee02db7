package hour_test

import (
	"math/big"
	"math/rand"
	"slices"
	"testing"

	"stearin/api"
	"stearin/hour"
)

// within reports whether a fraction is in a range.
func within(s api.Span, x *big.Rat) bool {
	return number(s.Lo).Cmp(x) <= 0 && x.Cmp(number(s.Hi)) <= 0
}

// inside reports whether a range is in another one.
func inside(s, other api.Span) bool { return other.Lo <= s.Lo && s.Hi <= other.Hi }

// smallTests calls a test with all tests with marks at some of the minutes 0 to 3, that weigh at most 3, and are wrong by at most 1.
func smallTests(test func(t api.HrTest)) {
	for wrong := range 2 {
		for chosen := range 16 {
			var minutes []int
			for minute := range 4 {
				if chosen>>minute&1 == 1 {
					minutes = append(minutes, minute)
				}
			}
			if len(minutes) < 2 {
				continue
			}
			for code := range 1 << (2 * len(minutes)) {
				t := burnt(wrong)
				for i, minute := range minutes {
					t.Marks = append(t.Marks, mark(minute, code>>(2*i)&3))
				}
				test(t)
			}
		}
	}
}

// sixthsBy are the least and the greatest rate, in sixths of a milligram a minute, of all truths of a small test that consist of sixths, tried one by one: both ends of all its rates are such, as two marks are at most three minutes apart.
func sixthsBy(t api.HrTest) (least, greatest int, possible bool) {
	for rate := -6 * 5; rate <= 6*5; rate++ {
		for weight := -6 * 17; weight <= 6*20; weight++ {
			explains := !slices.ContainsFunc(t.Marks, func(m api.HrMark) bool {
				off := weight - rate*m.Minute - 6*m.Weight
				return off > 6*t.Error || off < -6*t.Error
			})
			if explains && !possible {
				least, possible = rate, true
			}
			if explains {
				greatest = rate
			}
		}
	}
	return least, greatest, possible
}

// P9.2, P9.7, P9.8: all truths of small tests.
func TestAllTruthsOfSmallTests(t *testing.T) {
	seen := map[bool]int{}
	smallTests(func(x api.HrTest) {
		least, greatest, possible := sixthsBy(x)
		want, e := span(0, 0), api.ErrDown
		if possible {
			// 60 times a sixth are 10.
			want, e = span(max(0, 10*least), max(0, 10*greatest)), api.OK
		}
		if rate, f := hour.Rate(example(), x); rate != want || f != e {
			t.Errorf("%v: Rate = %v, %d, not %v, %d", x, rate, f, want, e)
		}
		seen[possible]++
	})
	if seen[true] < 100 || seen[false] < 100 {
		t.Errorf("not enough of both: %v", seen)
	}
}

// P9.2, P9.11: all marks of small tests.
func TestAllOddMarksOfSmallTests(t *testing.T) {
	seen := map[int]int{}
	smallTests(func(x api.HrTest) {
		var want []int
		if _, _, possible := sixthsBy(x); !possible {
			for at := range x.Marks {
				if _, _, possible := sixthsBy(less(x, at)); possible && len(x.Marks) > 2 {
					want = append(want, at)
				}
			}
		}
		if list, e := hour.Odd(example(), x); !slices.Equal(list, want) || e != api.OK {
			t.Errorf("%v: Odd = %v, %d, not %v", x, list, e, want)
		}
		seen[len(want)]++
	})
	for many := range 4 {
		if seen[many] < 10 {
			t.Errorf("%d marks: %v", many, seen)
		}
	}
}

// P9.7: any weight, any rate, and scales that are wrong by any numbers up to Error.
func TestEachTruthIsInTheRate(t *testing.T) {
	r := rand.New(rand.NewSource(907))
	slow := 0
	for range 10000 {
		truth, x := trueTest(r, sized(r), 2+r.Intn(9))
		rate, e := hour.Rate(example(), x)
		own := times(truth.rate, number(60))
		if own.Sign() < 0 {
			slow++
			own = number(0)
		}
		if !truth.explains(x) || e != api.OK || !within(rate, own) {
			t.Fatalf("%v, %v: Rate = %v, %d", truth, x, rate, e)
		}
	}
	if slow < 100 {
		t.Errorf("only %d candles became heavier", slow)
	}
}

// P9.2, P9.8: a truth for both ends of a rate, and none for a test that is not possible.
func TestTheEndsOfARateAreReached(t *testing.T) {
	r := rand.New(rand.NewSource(908))
	seen := map[string]int{}
	near := func(end int, rate *big.Rat) bool {
		off := minus(times(rate, number(60)), number(end))
		return end == 0 || off.Abs(off).Cmp(number(1)) < 0
	}
	for range 4000 {
		x := anyTest(r, sized(r))
		rate, e := hour.Rate(example(), x)
		least, greatest, possible := extremes(x)
		if !possible {
			seen["impossible"]++
			if e != api.ErrDown {
				t.Fatalf("%v: Rate = %v, %d", x, rate, e)
			}
			continue
		}
		if e != api.OK || rate != hourly(least.rate, greatest.rate) || !near(rate.Lo, least.rate) || !near(rate.Hi, greatest.rate) {
			t.Fatalf("%v: Rate = %v, %d, not %v to %v", x, rate, e, least.rate, greatest.rate)
		}
		if rate.Lo == 0 {
			seen["from nothing on"]++
		}
		if rate.Hi == 0 {
			seen["nothing at all"]++
		}
		if rate.Lo > 0 && !times(least.rate, number(60)).IsInt() {
			seen["rounded"]++
		}
	}
	for _, name := range []string{"impossible", "from nothing on", "nothing at all", "rounded"} {
		if seen[name] < 100 {
			t.Errorf("%s: %v", name, seen)
		}
	}
}

// P9.3: the rates of a kind by the corners of all its tests.
func TestTheRatesOfAKind(t *testing.T) {
	seen := map[api.Errno]int{}
	for _, z := range []size{small(), large()} {
		eachWorks(903, 400, z, func(r *rand.Rand, s api.HrShop, l []api.HrTest) {
			for kind := range s.Kinds {
				want, e := ratesBy(s, l, kind)
				if rates, f := hour.Rates(s, l, kind); rates != want || f != e {
					t.Fatalf("%v, %v, %d: Rates = %v, %d, not %v, %d", s, l, kind, rates, f, want, e)
				}
				seen[e]++
			}
		})
	}
	for _, e := range []api.Errno{api.OK, api.ErrDown, api.ErrZero} {
		if seen[e] < 30 {
			t.Errorf("%d: %v", e, seen)
		}
	}
}

// P9.3, P9.9: each candle of small kinds, minute by minute.
func TestAllCandlesOfSmallKinds(t *testing.T) {
	for code := range 4 * 4 * 4 * 5 * 5 {
		lo, hi, rest, slow, fast := 1+code%4, 1+code/4%4, code/16%4, code/64%5, code/320%5
		if lo > hi || rest >= lo || slow > fast || fast == 0 {
			continue
		}
		s := api.HrShop{Kinds: []api.HrKind{kind("a", lo, hi, rest)}}
		// minutes counts for how many minutes all candles burn, and after how many of them no one does, if they do not burn for ever.
		want := span(0, 0)
		all, some := true, true
		for minute := 1; minute <= 300; minute++ {
			some = false
			for weight := lo; weight <= hi; weight++ {
				for rate := 4 * slow; rate <= 4*fast; rate++ {
					// A rate in quarters of a milligram an hour burns so much in 240 minutes.
					all = all && rate*minute <= 240*(weight-rest)
					some = some || rate*(minute-1) < 240*(weight-rest)
				}
			}
			if all {
				want.Lo = minute
			}
			if some {
				want.Hi = minute
			}
		}
		if some {
			want.Hi = longest
		}
		l := []api.HrTest{lost(slow), lost(fast)}
		if minutes, e := hour.Minutes(s, l, 0); minutes != want || e != api.OK {
			t.Fatalf("%v, %v: Minutes = %v, %d, not %v", s, l, minutes, e, want)
		}
		if hours, e := hour.Promise(s, l, 0); hours != want.Lo/60 || e != api.OK {
			t.Fatalf("%v, %v: Promise = %d, %d, not %d", s, l, hours, e, want.Lo/60)
		}
	}
}

// known calls a test with random shops, tests, and a kind of which something is known, and its rates.
func known(seed int64, many int, test func(r *rand.Rand, s api.HrShop, l []api.HrTest, kind int, rates api.Span)) {
	for _, z := range []size{small(), large()} {
		eachWorks(seed, many, z, func(r *rand.Rand, s api.HrShop, l []api.HrTest) {
			if r.Intn(10) == 0 {
				// Some candles that hardly burn, so that more is told than there can be.
				l[0].Marks = []api.HrMark{mark(0, 1+r.Intn(20)), mark(60, 0)}
				l[0].Error = 0
			}
			for kind := range s.Kinds {
				if rates, e := hour.Rates(s, l, kind); e == api.OK {
					test(r, s, l, kind, rates)
				}
			}
		})
	}
}

// P9.3, P9.9: each candle burns for the hours of its promise, and for a time in its minutes.
func TestPromisedHours(t *testing.T) {
	seen := map[string]int{}
	known(909, 1500, func(r *rand.Rand, s api.HrShop, l []api.HrTest, kind int, rates api.Span) {
		k := s.Kinds[kind]
		minutes, e := hour.Minutes(s, l, kind)
		hours, f := hour.Promise(s, l, kind)
		if e != api.OK || f != api.OK || minutes != minutesBy(k, rates) {
			t.Fatalf("%v, %v, %d: Minutes = %v, %d, not %v; Promise = %d, %d", s, l, kind, minutes, e, minutesBy(k, rates), hours, f)
		}
		for c := range candles(r, k, rates, 5) {
			if !c.burnsFor(number(60*hours)) || !c.burnsFor(number(minutes.Lo)) || minutes.Hi < longest && !c.isOutBy(number(minutes.Hi)) {
				t.Fatalf("%v, %v, %d, %v: Minutes = %v; Promise = %d", s, l, kind, c, minutes, hours)
			}
		}
		first, last := candle{k.Weight.Lo, k.Rest, number(rates.Hi)}, candle{k.Weight.Hi, k.Rest, number(rates.Lo)}
		if hours < 16666 && first.burnsFor(number(60*(hours+1))) || hours > 16666 {
			t.Fatalf("%v, %v, %d: Promise = %d", s, l, kind, hours)
		}
		if minutes.Lo < longest && first.burnsFor(number(minutes.Lo+1)) || last.isOutBy(number(minutes.Hi-1)) || minutes.Hi > longest {
			t.Fatalf("%v, %v, %d: Minutes = %v", s, l, kind, minutes)
		}
		seen["all"]++
		if hours == 16666 {
			seen["as many hours as there can be"]++
		}
		if hours > 0 && hours < 16666 {
			seen["hours"]++
		}
		if rates.Lo == 0 {
			seen["for ever"]++
		}
		if rates.Lo > 0 && minutes.Hi == longest {
			seen["as many minutes as there can be"]++
		}
	})
	for _, name := range []string{"all", "hours", "for ever", "as many hours as there can be", "as many minutes as there can be"} {
		if seen[name] < 30 {
			t.Errorf("%s: %v", name, seen)
		}
	}
}

// nearly is a number near a fraction, from 0 to most.
func nearly(r *rand.Rand, x *big.Rat, most int) int {
	return max(0, min(most, floor(x)+r.Intn(4)-1))
}

// closeRule is a rule whose ends are near those of a kind.
func closeRule(r *rand.Rand, k api.HrKind, rates api.Span) api.HrRule {
	least := over(number(60*(k.Weight.Lo-k.Rest)), number(rates.Hi))
	greatest := number(longest)
	if rates.Lo > 0 {
		greatest = over(number(60*(k.Weight.Hi-k.Rest)), number(rates.Lo))
	}
	x := rule("close", span(nearly(r, least, longest), nearly(r, greatest, longest)), span(nearly(r, number(k.Weight.Lo), heaviest), nearly(r, number(k.Weight.Hi), heaviest)))
	if r.Intn(3) > 0 {
		x.Weight = span(0, heaviest)
	}
	x.Minutes.Hi, x.Weight.Hi = max(x.Minutes.Lo, x.Minutes.Hi), max(x.Weight.Lo, x.Weight.Hi)
	return x
}

// P9.4, P9.10: if a kind fits a rule, each candle of it does; if not, some candle does not, for the first of the reasons.
func TestRules(t *testing.T) {
	seen := map[int]int{}
	known(910, 1500, func(r *rand.Rand, s api.HrShop, l []api.HrTest, kind int, rates api.Span) {
		k := s.Kinds[kind]
		x := closeRule(r, k, rates)
		s.Rules = []api.HrRule{rule("other", span(0, 0), span(0, 0)), x}
		fits, e := hour.Fits(s, l, kind, 1)
		found := [4]bool{}
		for c := range candles(r, k, rates, 5) {
			found[api.HrShort] = found[api.HrShort] || !c.burnsFor(number(x.Minutes.Lo))
			found[api.HrLong] = found[api.HrLong] || !c.isOutBy(number(x.Minutes.Hi))
			found[api.HrSize] = found[api.HrSize] || c.weight < x.Weight.Lo || c.weight > x.Weight.Hi
		}
		// Without a reason it is the number of HrFits.
		if want := max(0, slices.Index(found[:], true)); fits != want || e != api.OK {
			t.Fatalf("%v, %v, %d: Fits = %d, %d, not %d", s, l, kind, fits, e, want)
		}
		seen[fits]++
	})
	for fits := range 4 {
		if seen[fits] < 100 {
			t.Errorf("%d: %v", fits, seen)
		}
	}
}

// P9.2, P9.11: without a mark that Odd names the test is possible, and without another one it is not.
func TestOddMarks(t *testing.T) {
	r := rand.New(rand.NewSource(911))
	seen := map[string]int{}
	for range 2000 {
		x := anyTest(r, sized(r))
		list, e := hour.Odd(example(), x)
		_, _, possible := extremes(x)
		if e != api.OK || possible && len(list) > 0 || !slices.IsSorted(list) {
			t.Fatalf("%v: Odd = %v, %d", x, list, e)
		}
		if possible {
			continue
		}
		seen["impossible"]++
		if len(list) > 0 {
			seen["named"]++
		}
		for at := range x.Marks {
			if _, _, possible := extremes(less(x, at)); possible != slices.Contains(list, at) {
				t.Fatalf("%v: Odd = %v", x, list)
			}
		}
	}
	for _, name := range []string{"impossible", "named"} {
		if seen[name] < 100 {
			t.Errorf("%s: %v", name, seen)
		}
	}
}

// P9.11: a truth with one wrong mark among at least three others has this mark among those that Odd names, or is possible.
func TestTheWrongMarkIsNamed(t *testing.T) {
	r := rand.New(rand.NewSource(9110))
	seen := map[int]int{}
	for range 10000 {
		z := sized(r)
		_, x := trueTest(r, z, 4+r.Intn(7))
		at := r.Intn(len(x.Marks))
		x.Marks[at].Weight = max(0, min(heaviest, x.Marks[at].Weight+r.Intn(20*z.wrong)-10*z.wrong))
		list, e := hour.Odd(example(), x)
		_, f := hour.Rate(example(), x)
		seen[min(2, len(list))]++
		if e != api.OK || f != api.OK && !slices.Contains(list, at) || f == api.OK && len(list) > 0 {
			t.Fatalf("%v, %d: Odd = %v, %d; Rate: %d", x, at, list, e, f)
		}
	}
	for many := range 3 {
		if seen[many] < 500 {
			t.Errorf("%d: %v", many, seen)
		}
	}
}

// P9.12: with a mark more the rate of a test is no wider.
func TestAMarkMore(t *testing.T) {
	r := rand.New(rand.NewSource(912))
	narrower := 0
	for range 10000 {
		x := anyTest(r, sized(r))
		if len(x.Marks) < 3 {
			continue
		}
		fewer := less(x, r.Intn(len(x.Marks)))
		rate, e := hour.Rate(example(), x)
		before, f := hour.Rate(example(), fewer)
		if e == api.OK && (f != api.OK || !inside(rate, before)) {
			t.Fatalf("%v: Rate = %v, %d; %v: %v, %d", fewer, before, f, x, rate, e)
		}
		if e == api.OK && rate != before {
			narrower++
		}
	}
	if narrower < 1000 {
		t.Errorf("only %d rates were narrower", narrower)
	}
}

// P9.12: with a further test no rate of a kind is narrower, and no promise longer.
func TestAFurtherTest(t *testing.T) {
	seen := map[string]int{}
	known(9120, 1500, func(r *rand.Rand, s api.HrShop, l []api.HrTest, kind int, rates api.Span) {
		if len(l) == 8 {
			return
		}
		further := slices.Insert(slices.Clone(l), r.Intn(len(l)+1), of(kind, anyTest(r, sized(r))))
		wider, e := hour.Rates(s, further, kind)
		hours, _ := hour.Promise(s, l, kind)
		fewer, f := hour.Promise(s, further, kind)
		if e != api.OK || f != api.OK || !inside(rates, wider) || fewer > hours {
			t.Fatalf("%v, %v, %v, %d: Rates = %v, %d; Promise = %d, %d", s, l, further, kind, wider, e, fewer, f)
		}
		if wider != rates {
			seen["wider"]++
		}
		if fewer < hours {
			seen["fewer"]++
		}
	})
	for _, name := range []string{"wider", "fewer"} {
		if seen[name] < 100 {
			t.Errorf("%s: %v", name, seen)
		}
	}
}

// P9.12: with a smaller Margin no promise is shorter.
func TestASmallerMargin(t *testing.T) {
	more := 0
	known(9121, 1500, func(r *rand.Rand, s api.HrShop, l []api.HrTest, kind int, rates api.Span) {
		hours, _ := hour.Promise(s, l, kind)
		s.Margin = r.Intn(s.Margin + 1)
		smaller, e := hour.Promise(s, l, kind)
		if e != api.OK || smaller < hours {
			t.Fatalf("%v, %v, %d: Promise = %d, %d, not %d", s, l, kind, smaller, e, hours)
		}
		if smaller > hours {
			more++
		}
	})
	if more < 100 {
		t.Errorf("only %d promises were longer", more)
	}
}

// P9.5, P9.13: a box is named just if the promise of its kind is below its hours.
func TestBoxes(t *testing.T) {
	seen := map[api.Errno]int{}
	many := 0
	for _, z := range []size{small(), large()} {
		eachWorks(913, 1000, z, func(r *rand.Rand, s api.HrShop, l []api.HrTest) {
			var boxes []api.HrBox
			var want []int
			var e api.Errno
			for at := range r.Intn(21) {
				b := api.HrBox{Kind: l[r.Intn(len(l))].Kind}
				if r.Intn(30) == 0 {
					b.Kind = r.Intn(len(s.Kinds))
				}
				hours, f := hour.Promise(s, l, b.Kind)
				if b.Hours = max(0, hours+r.Intn(4)-1); b.Hours > hours {
					want = append(want, at)
				}
				if e == api.OK {
					e = f
				}
				boxes = append(boxes, b)
			}
			if e != api.OK {
				want = nil
			}
			if list, f := hour.Broken(s, l, boxes); !slices.Equal(list, want) || f != e {
				t.Fatalf("%v, %v, %v: Broken = %v, %d, not %v, %d", s, l, boxes, list, f, want, e)
			}
			seen[e]++
			many = max(many, len(want))
		})
	}
	for _, e := range []api.Errno{api.OK, api.ErrDown, api.ErrZero} {
		if seen[e] < 30 {
			t.Errorf("%d: %v", e, seen)
		}
	}
	if many < 10 {
		t.Errorf("at most %d boxes were named", many)
	}
}
