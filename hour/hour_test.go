package hour_test

import (
	"slices"
	"testing"

	"stearin/api"
	"stearin/hour"
)

// P9.2, and the examples of the chapter.
func TestRateOfTheExamples(t *testing.T) {
	if rate, e := hour.Rate(example(), exampleT()); rate != span(4000, 4100) || e != api.OK {
		t.Errorf("T: Rate = %v, %d", rate, e)
	}
	if rate, e := hour.Rate(example(), exampleU()); rate != span(0, 0) || e != api.ErrDown {
		t.Errorf("U: Rate = %v, %d", rate, e)
	}
}

// P9.2
func TestRate(t *testing.T) {
	for _, c := range []struct {
		name string
		test api.HrTest
		want api.Span
		e    api.Errno
	}{
		{"nothing wrong", burnt(0, mark(0, 100), mark(60, 40)), span(60, 60), api.OK},
		{"two marks, wrong by 5", burnt(5, mark(0, 100), mark(60, 40)), span(50, 70), api.OK},
		{"not from the minute 0 on", burnt(5, mark(1000, 100), mark(1060, 40)), span(50, 70), api.OK},
		{"a third is rounded on both sides", burnt(0, mark(0, 10), mark(180, 0)), span(3, 4), api.OK},
		{"just a whole number is not rounded", burnt(0, mark(0, 9), mark(180, 0)), span(3, 3), api.OK},
		{"a little more than a whole number", burnt(0, mark(0, 3001), mark(60000, 0)), span(3, 4), api.OK},
		{"a little less than a whole number", burnt(0, mark(0, 2999), mark(60000, 0)), span(2, 3), api.OK},
		{"one minute", burnt(0, mark(0, 1), mark(1, 0)), span(60, 60), api.OK},
		{"one minute, wrong by 1", burnt(1, mark(0, 1), mark(1, 0)), span(0, 180), api.OK},
		{"as heavy as before", burnt(0, mark(0, 7), mark(60, 7)), span(0, 0), api.OK},
		{"as heavy as before, wrong by 1", burnt(1, mark(0, 7), mark(60, 7)), span(0, 2), api.OK},
		{"heavier than before", burnt(0, mark(0, 7), mark(60, 17)), span(0, 0), api.OK},
		{"heavier than before, wrong by just so much", burnt(5, mark(0, 7), mark(60, 17)), span(0, 0), api.OK},
		{"heavier than before, wrong by more", burnt(6, mark(0, 7), mark(60, 17)), span(0, 2), api.OK},
		{"heavier by a third of a milligram an hour", burnt(0, mark(0, 0), mark(180, 1)), span(0, 0), api.OK},
		{"three on a line", burnt(0, mark(0, 30), mark(10, 20), mark(20, 10)), span(60, 60), api.OK},
		{"three not on a line", burnt(0, mark(0, 30), mark(10, 20), mark(20, 11)), span(0, 0), api.ErrDown},
		{"three not on a line, wrong by too little", burnt(1, mark(0, 30), mark(10, 20), mark(20, 15)), span(0, 0), api.ErrDown},
		{"three not on a line, wrong by just enough", burnt(1, mark(0, 30), mark(10, 20), mark(20, 14)), span(48, 48), api.OK},
		{"three in uneven minutes", burnt(1, mark(0, 30), mark(10, 20), mark(40, 14)), span(0, 0), api.ErrDown},
		{"three heavier than before", burnt(1, mark(0, 0), mark(1, 10), mark(2, 20)), span(0, 0), api.OK},
		{"three heavier than before, not on a line", burnt(1, mark(0, 0), mark(1, 10), mark(2, 25)), span(0, 0), api.ErrDown},
		{"bounded by marks that are not neighbours", burnt(10, mark(0, 400), mark(60, 300), mark(61, 280), mark(120, 200)), span(98, 102), api.OK},
		{"as fast as can be", burnt(10000, mark(0, heaviest), mark(1, 0)), span(60*(heaviest-20000), 60*(heaviest+20000)), api.OK},
		{"as long as can be", burnt(10000, mark(0, heaviest), mark(longest, 0)), span(598, 602), api.OK},
		{"as heavy, and as late, as can be", burnt(10000, mark(longest-1, heaviest), mark(longest, heaviest)), span(0, 1200000), api.OK},
		{"a truth weighs less than nothing", burnt(10, mark(100, 0), mark(160, 0)), span(0, 20), api.OK},
	} {
		if rate, e := hour.Rate(example(), c.test); rate != c.want || e != c.e {
			t.Errorf("%s: Rate = %v, %d, not %v, %d", c.name, rate, e, c.want, c.e)
		}
	}
}

// P9.2: neither the kind, nor the rules, nor the margin change the rate of a test.
func TestTheRateOfATestIsItsOwn(t *testing.T) {
	for _, margin := range []int{0, 1, 500} {
		for i := range 3 {
			s := with(func(s *api.HrShop) { s.Margin, s.Rules = margin, s.Rules[:i] })
			if rate, e := hour.Rate(s, of(i, exampleT())); rate != span(4000, 4100) || e != api.OK {
				t.Errorf("Rate = %v, %d", rate, e)
			}
		}
	}
}

// P9.2, P9.11, and the examples of the chapter.
func TestOdd(t *testing.T) {
	for _, c := range []struct {
		name string
		test api.HrTest
		want []int
	}{
		{"T", exampleT(), nil},
		{"U", exampleU(), []int{2}},
		{"U without the mark at 180", less(exampleU(), 3), []int{0, 1, 2}},
		{"two marks", burnt(0, mark(0, 0), mark(1, heaviest)), nil},
		{"three on a line", burnt(0, mark(0, 30), mark(10, 20), mark(20, 10)), nil},
		{"three not on a line", burnt(0, mark(0, 30), mark(10, 20), mark(20, 11)), []int{0, 1, 2}},
		{"the first of four", burnt(0, mark(0, 31), mark(10, 20), mark(20, 10), mark(30, 0)), []int{0}},
		{"the second of four", burnt(0, mark(0, 30), mark(10, 21), mark(20, 10), mark(30, 0)), []int{1}},
		{"the third of four", burnt(0, mark(0, 30), mark(10, 20), mark(20, 11), mark(30, 0)), []int{2}},
		{"the last of four", burnt(0, mark(0, 30), mark(10, 20), mark(20, 10), mark(30, 1)), []int{3}},
		{"two of four", burnt(0, mark(0, 30), mark(10, 21), mark(20, 11), mark(30, 0)), nil},
		{"either of two of four", burnt(1, mark(0, 30), mark(10, 20), mark(20, 14), mark(30, 4)), nil},
		{"two of five", burnt(0, mark(0, 40), mark(10, 31), mark(20, 20), mark(30, 11), mark(40, 0)), nil},
		{"any of three of four", burnt(1, mark(0, 30), mark(10, 25), mark(20, 15), mark(30, 9)), []int{0, 1, 2}},
		{"heavier and heavier", burnt(0, mark(0, 0), mark(1, 10), mark(2, 25), mark(3, 30)), []int{2}},
	} {
		if list, e := hour.Odd(example(), c.test); !slices.Equal(list, c.want) || e != api.OK {
			t.Errorf("%s: Odd = %v, %d, not %v", c.name, list, e, c.want)
		}
	}
}

// P9.3, and the examples of the chapter.
func TestTheExamplesOfAKind(t *testing.T) {
	for _, l := range [][]api.HrTest{{exampleT()}, {exampleT(), exampleU()}, {exampleU(), exampleT()}} {
		if rates, e := hour.Rates(example(), l, 0); rates != span(3600, 4510) || e != api.OK {
			t.Errorf("Rates = %v, %d", rates, e)
		}
		if minutes, e := hour.Minutes(example(), l, 0); minutes != span(1317, 1667) || e != api.OK {
			t.Errorf("Minutes = %v, %d", minutes, e)
		}
		if hours, e := hour.Promise(example(), l, 0); hours != 21 || e != api.OK {
			t.Errorf("Promise = %d, %d", hours, e)
		}
	}
}

// P9.3: each rate is rounded before the margin is added, and after it again.
func TestRates(t *testing.T) {
	third := burnt(0, mark(0, 10), mark(180, 0))
	for _, c := range []struct {
		name   string
		margin int
		tests  []api.HrTest
		want   api.Span
	}{
		{"no margin", 0, []api.HrTest{lost(60)}, span(60, 60)},
		{"a margin of a half", 500, []api.HrTest{lost(60)}, span(30, 90)},
		{"a margin of a thousandth", 1, []api.HrTest{lost(60)}, span(59, 61)},
		{"a margin of a thousandth of a thousand", 1, []api.HrTest{lost(1000)}, span(999, 1001)},
		{"more than a thousand", 1, []api.HrTest{lost(1001)}, span(999, 1003)},
		{"3 to 4", 0, []api.HrTest{third}, span(3, 4)},
		{"3 to 4 with a margin of a half", 500, []api.HrTest{third}, span(1, 6)},
		{"3 to 4 with a margin of a third", 333, []api.HrTest{third}, span(2, 6)},
		{"3 to 4 with a margin of a tenth", 100, []api.HrTest{third}, span(2, 5)},
		{"the slowest and the fastest", 0, []api.HrTest{lost(70), lost(60), lost(80)}, span(60, 80)},
		{"the slowest and the fastest, the other way round", 0, []api.HrTest{lost(70), lost(80), lost(60)}, span(60, 80)},
		{"one within another", 0, []api.HrTest{burnt(5, mark(0, 60), mark(60, 0)), lost(60)}, span(50, 70)},
		{"a part of the other", 0, []api.HrTest{burnt(5, mark(0, 60), mark(60, 0)), burnt(5, mark(0, 64), mark(60, 0))}, span(50, 74)},
		{"those of other kinds do not count", 0, []api.HrTest{of(1, lost(1)), lost(60), of(2, lost(1000))}, span(60, 60)},
		{"impossible ones do not count", 0, []api.HrTest{burnt(0, mark(0, 9), mark(60, 8), mark(120, 0)), lost(60)}, span(60, 60)},
		{"one that did not burn", 100, []api.HrTest{lost(0), lost(60)}, span(0, 66)},
		{"one that became heavier", 100, []api.HrTest{burnt(0, mark(0, 0), mark(60, 10)), lost(60)}, span(0, 66)},
		{"hardly more than nothing", 500, []api.HrTest{burnt(0, mark(0, 1), mark(longest, 0))}, span(0, 2)},
		{"as fast as can be", 500, []api.HrTest{burnt(10000, mark(0, heaviest), mark(1, 0))}, span(299400000, 901800000)},
	} {
		s := with(func(s *api.HrShop) { s.Margin = c.margin })
		if rates, e := hour.Rates(s, c.tests, 0); rates != c.want || e != api.OK {
			t.Errorf("%s: Rates = %v, %d, not %v", c.name, rates, e, c.want)
		}
	}
}

// P9.3
func TestMinutesAndPromise(t *testing.T) {
	for _, c := range []struct {
		name         string
		lo, hi, rest int
		slow, fast   int
		minutes      api.Span
		promise      int
	}{
		{"an hour", 60, 60, 0, 60, 60, span(60, 60), 1},
		{"a little more", 61, 61, 0, 60, 60, span(61, 61), 1},
		{"a little less", 59, 59, 0, 60, 60, span(59, 59), 0},
		{"what is left does not burn", 120, 120, 60, 60, 60, span(60, 60), 1},
		{"hardly anything burns", 120, 120, 119, 60, 60, span(1, 1), 0},
		{"less than a minute", 1, 1, 0, 61, 61, span(0, 1), 0},
		{"just a minute", 1, 1, 0, 60, 60, span(1, 1), 0},
		{"light and heavy ones", 60, 90, 0, 60, 60, span(60, 90), 1},
		{"slow and fast ones", 120, 120, 0, 60, 120, span(60, 120), 1},
		{"minutes are rounded on both sides", 100, 101, 1, 59, 61, span(97, 102), 1},
		{"hours are rounded down", 179, 179, 0, 60, 60, span(179, 179), 2},
		{"two hours, and less than a minute less", 119999, 119999, 0, 60000, 60000, span(119, 120), 1},
		{"some do not burn", 120, 120, 0, 0, 60, span(120, longest), 2},
		{"just as many minutes as there are", longest, longest, 0, 60, 60, span(longest, longest), 16666},
		{"a minute less", longest - 1, longest - 1, 0, 60, 60, span(longest-1, longest-1), 16666},
		{"a minute more", longest + 1, longest + 1, 0, 60, 60, span(longest, longest), 16666},
		{"just as many hours as there are", 16666, 16666, 0, 1, 1, span(999960, 999960), 16666},
		{"an hour less", 16665, 16665, 0, 1, 1, span(999900, 999900), 16665},
		{"an hour more", 16667, 16667, 0, 1, 1, span(longest, longest), 16666},
		{"the slow ones for longer than is told", 16666, 50001, 0, 1, 3, span(333320, longest), 5555},
		{"as heavy as can be", heaviest, heaviest, 0, 1, 1, span(longest, longest), 16666},
		{"as fast as can be", 1, 1, 0, 600000000, 600000000, span(0, 1), 0},
	} {
		s := api.HrShop{Kinds: []api.HrKind{kind("a", c.lo, c.hi, c.rest)}}
		l := []api.HrTest{rateOf(c.slow), rateOf(c.fast)}
		if rates, e := hour.Rates(s, l, 0); rates != span(c.slow, c.fast) || e != api.OK {
			t.Errorf("%s: Rates = %v, %d", c.name, rates, e)
		}
		if minutes, e := hour.Minutes(s, l, 0); minutes != c.minutes || e != api.OK {
			t.Errorf("%s: Minutes = %v, %d, not %v", c.name, minutes, e, c.minutes)
		}
		if hours, e := hour.Promise(s, l, 0); hours != c.promise || e != api.OK {
			t.Errorf("%s: Promise = %d, %d, not %d", c.name, hours, e, c.promise)
		}
	}
}

// rateOf is a test with just this rate, also if it is a multiple of 60 that no candle loses in an hour.
func rateOf(rate int) api.HrTest {
	if rate > heaviest {
		return burnt(0, mark(0, rate/60), mark(1, 0))
	}
	return lost(rate)
}

// P9.4, and the examples of the chapter.
func TestFitsOfTheExamples(t *testing.T) {
	l := []api.HrTest{exampleT()}
	if fits, e := hour.Fits(example(), l, 0, 0); fits != api.HrFits || e != api.OK {
		t.Errorf("church: Fits = %d, %d", fits, e)
	}
	if fits, e := hour.Fits(example(), l, 0, 1); fits != api.HrShort || e != api.OK {
		t.Errorf("lamp: Fits = %d, %d", fits, e)
	}
}

// P9.4
func TestFits(t *testing.T) {
	all := span(0, heaviest)
	for _, c := range []struct {
		name           string
		k              api.HrKind
		slow, fast     int
		minutes, weigh api.Span
		want           int
	}{
		{"just as long", kind("a", 60, 90, 0), 60, 60, span(60, 90), all, api.HrFits},
		{"too short", kind("a", 60, 90, 0), 60, 60, span(61, 90), all, api.HrShort},
		{"too long", kind("a", 60, 90, 0), 60, 60, span(60, 89), all, api.HrLong},
		{"too short and too long", kind("a", 60, 90, 0), 60, 60, span(70, 80), all, api.HrShort},
		{"the fast ones are too short", kind("a", 60, 60, 0), 60, 120, span(31, 60), all, api.HrShort},
		{"the slow ones are too long", kind("a", 60, 60, 0), 60, 120, span(30, 59), all, api.HrLong},
		{"both are just right", kind("a", 60, 60, 0), 60, 120, span(30, 60), all, api.HrFits},
		{"too short by less than a minute", kind("a", 119999, 119999, 0), 60000, 60000, span(120, 120), all, api.HrShort},
		{"too long by less than a minute", kind("a", 120001, 120001, 0), 60000, 60000, span(120, 120), all, api.HrLong},
		{"just right", kind("a", 120000, 120000, 0), 60000, 60000, span(120, 120), all, api.HrFits},
		{"what is left does not burn", kind("a", 120, 120, 60), 60, 60, span(60, 60), all, api.HrFits},
		{"but is weighed", kind("a", 120, 120, 60), 60, 60, span(60, 60), span(120, 120), api.HrFits},
		{"some do not burn", kind("a", 60, 60, 0), 0, 60, span(60, longest), all, api.HrLong},
		{"some burn for longer than can be told", kind("a", longest+1, longest+1, 0), 60, 60, span(longest, longest), all, api.HrLong},
		{"just for as long as can be told", kind("a", longest, longest, 0), 60, 60, span(longest, longest), all, api.HrFits},
		{"for hardly less than can be told", kind("a", longest-1, longest, 0), 60, 60, span(longest, longest), all, api.HrShort},
		{"less than a minute", kind("a", 1, 1, 0), 61, 61, span(0, 1), all, api.HrFits},
		{"less than a minute is more than none", kind("a", 1, 1, 0), 61, 61, span(0, 0), all, api.HrLong},
		{"just as heavy", kind("a", 60, 90, 0), 60, 60, span(60, 90), span(60, 90), api.HrFits},
		{"too light", kind("a", 60, 90, 0), 60, 60, span(60, 90), span(61, 90), api.HrSize},
		{"too heavy", kind("a", 60, 90, 0), 60, 60, span(60, 90), span(60, 89), api.HrSize},
		{"too light and too short", kind("a", 60, 90, 0), 60, 60, span(61, 90), span(61, 90), api.HrShort},
		{"too heavy and too long", kind("a", 60, 90, 0), 60, 60, span(60, 89), span(60, 89), api.HrLong},
	} {
		s := api.HrShop{Kinds: []api.HrKind{kind("z", 1, 1, 0), c.k}, Rules: []api.HrRule{rule("z", all, all), rule("a", c.minutes, c.weigh)}}
		s.Rules[0].Minutes = span(0, longest)
		l := []api.HrTest{lost(7), of(1, lost(c.fast)), of(1, lost(c.slow))}
		if fits, e := hour.Fits(s, l, 1, 1); fits != c.want || e != api.OK {
			t.Errorf("%s: Fits = %d, %d, not %d", c.name, fits, e, c.want)
		}
	}
}

// P9.5, and the example of the chapter.
func TestBroken(t *testing.T) {
	s := works()
	l := []api.HrTest{exampleT(), of(2, lost(1000))}
	if hours, e := hour.Promise(s, l, 2); hours != 4 || e != api.OK {
		t.Fatalf("Promise = %d, %d", hours, e)
	}
	for _, c := range []struct {
		boxes []api.HrBox
		want  []int
	}{
		{[]api.HrBox{{Kind: 0, Hours: 21}, {Kind: 0, Hours: 22}, {Kind: 0, Hours: 20}}, []int{1}},
		{nil, nil},
		{[]api.HrBox{{Kind: 0, Hours: 0}, {Kind: 2, Hours: 0}}, nil},
		{[]api.HrBox{{Kind: 0, Hours: longest}}, []int{0}},
		{[]api.HrBox{{Kind: 2, Hours: 5}, {Kind: 0, Hours: 5}, {Kind: 2, Hours: 4}, {Kind: 2, Hours: 21}, {Kind: 0, Hours: 22}, {Kind: 0, Hours: 21}}, []int{0, 3, 4}},
		{slices.Repeat([]api.HrBox{{Kind: 0, Hours: 21}, {Kind: 2, Hours: 5}}, 10), []int{1, 3, 5, 7, 9, 11, 13, 15, 17, 19}},
	} {
		if list, e := hour.Broken(s, l, c.boxes); !slices.Equal(list, c.want) || e != api.OK {
			t.Errorf("%v: Broken = %v, %d, not %v", c.boxes, list, e, c.want)
		}
	}
}

// P9.5: no candle can be promised for as long as it burns, if it burns for longer than can be told.
func TestBoxesForEver(t *testing.T) {
	s := api.HrShop{Kinds: []api.HrKind{kind("a", heaviest, heaviest, 0)}}
	l := []api.HrTest{lost(1)}
	boxes := []api.HrBox{{Hours: 16666}, {Hours: 16667}, {Hours: longest}}
	if list, e := hour.Broken(s, l, boxes); !slices.Equal(list, []int{1, 2}) || e != api.OK {
		t.Errorf("Broken = %v, %d", list, e)
	}
}
