package store_test

import (
	"math"
	"slices"
	"strings"
	"testing"

	"stearin/api"
	"stearin/store"
)

// broken is the season with three stores with a change, and what Check returns of it.
type broken struct {
	name     string
	change   func(s *api.SoSeason)
	part, at int
	e        api.Errno
}

// brokenSeasons are seasons with errors, and ones at the limits, which have none.
func brokenSeasons() []broken {
	list := []broken{
		{"three stores", func(s *api.SoSeason) {}, 0, 0, api.OK},
		{"S", func(s *api.SoSeason) { *s = example() }, 0, 0, api.OK},
		{"as much as there can be", func(s *api.SoSeason) { *s = full() }, 0, 0, api.OK},
		{"as little as there can be", func(s *api.SoSeason) { *s = season(candle(0, 1, 0, 1), 0, house("a", 0, spans(0, 0))) }, 0, 0, api.OK},
		{"the zero value", func(s *api.SoSeason) { *s = api.SoSeason{} }, 1, 0, api.ErrRange},
		{"the zero value of the candle", func(s *api.SoSeason) { s.Candle = api.SoCandle{} }, 1, 0, api.ErrRange},
		{"no stores", func(s *api.SoSeason) { s.Stores = nil }, 2, 0, api.ErrLong},
		{"one store", func(s *api.SoSeason) { s.Stores = s.Stores[:1] }, 0, 0, api.OK},
		{"a store too many", func(s *api.SoSeason) { s.Stores = append(s.Stores, house("d", 0, always(0, 0, 3))) }, 2, 0, api.ErrLong},
		{"a store too many, with errors", func(s *api.SoSeason) { s.Stores = make([]api.SoStore, 4) }, 2, 0, api.ErrLong},
		{"far too many stores", func(s *api.SoSeason) { s.Stores = make([]api.SoStore, 1000) }, 2, 0, api.ErrLong},
		{"as many stores as there can be, with errors", func(s *api.SoSeason) { s.Stores = make([]api.SoStore, 3) }, 2, 0, api.ErrForm},
		{"a number of the candle before no stores", func(s *api.SoSeason) { s.Candle.Days, s.Stores = 0, nil }, 1, 0, api.ErrRange},
		{"a number of the candle before a store", func(s *api.SoSeason) { s.Candle.Times, s.Stores[0].Name = 9, "" }, 1, 0, api.ErrRange},
		{"a move before no stores", func(s *api.SoSeason) { s.Move, s.Stores = -1, nil }, 1, 0, api.ErrRange},
		{"a move before a store", func(s *api.SoSeason) { s.Move, s.Stores[0].Name = dearest+1, "" }, 1, 0, api.ErrRange},
	}
	return slices.Concat(list, brokenStores(), brokenDays(), brokenNames(), brokenNumbers())
}

// brokenStores are seasons of which a store has an error, or nearly so.
func brokenStores() []broken {
	return []broken{
		{"the same name", func(s *api.SoSeason) { s.Stores[1].Name = "attic" }, 2, 1, api.ErrTwice},
		{"the same name, further behind", func(s *api.SoSeason) { s.Stores[2].Name = "attic" }, 2, 2, api.ErrTwice},
		{"the same name, and the last one", func(s *api.SoSeason) { s.Stores[2].Name = "cellar" }, 2, 2, api.ErrTwice},
		{"the same name that is none", func(s *api.SoSeason) { s.Stores[0].Name, s.Stores[1].Name = "a-", "a-" }, 2, 0, api.ErrForm},
		{"a name before the rent", func(s *api.SoSeason) { s.Stores[2] = house("Shed", -1, always(0, 0, 3)) }, 2, 2, api.ErrForm},
		{"a name before the days", func(s *api.SoSeason) { s.Stores[2] = house("", 0, nil) }, 2, 2, api.ErrForm},
		{"a name before an end", func(s *api.SoSeason) { s.Stores[0] = house("", 0, always(-1, 0, 3)) }, 2, 0, api.ErrForm},
		{"a name before the order", func(s *api.SoSeason) { s.Stores[0] = house("", 0, always(2, 1, 3)) }, 2, 0, api.ErrForm},
		{"the same name before the rent", func(s *api.SoSeason) { s.Stores[1] = house("attic", -1, always(0, 0, 3)) }, 2, 1, api.ErrTwice},
		{"the same name before the days", func(s *api.SoSeason) { s.Stores[1] = house("attic", 0, nil) }, 2, 1, api.ErrTwice},
		{"the same name before an end", func(s *api.SoSeason) { s.Stores[2] = house("attic", 0, always(0, 61, 3)) }, 2, 2, api.ErrTwice},
		{"the same name before the order", func(s *api.SoSeason) { s.Stores[2] = house("cellar", 0, always(2, 1, 3)) }, 2, 2, api.ErrTwice},
		{"the rent before the days", func(s *api.SoSeason) { s.Stores[1] = house("b", -1, nil) }, 2, 1, api.ErrRange},
		{"the rent before the days of the first store", func(s *api.SoSeason) { s.Stores[0] = house("b", dearest+1, nil) }, 2, 0, api.ErrRange},
		{"the rent before the order", func(s *api.SoSeason) { s.Stores[1] = house("b", -1, always(2, 1, 3)) }, 2, 1, api.ErrRange},
		{"the days before an end", func(s *api.SoSeason) { s.Stores[1].Warm = always(-1, 0, 2) }, 2, 1, api.ErrLong},
		{"the days before the order", func(s *api.SoSeason) { s.Stores[1].Warm = always(2, 1, 4) }, 2, 1, api.ErrLong},
		{"too many days of the first store before an end", func(s *api.SoSeason) { s.Stores[0].Warm = always(-1, 0, 9) }, 2, 0, api.ErrLong},
		{"too many days of the first store before the order", func(s *api.SoSeason) { s.Stores[0].Warm = always(2, 1, 9) }, 2, 0, api.ErrLong},
		{"the first store with an error, an order", func(s *api.SoSeason) { s.Stores[0].Warm[2], s.Stores[1].Name = span(2, 1), "" }, 2, 0, api.ErrArg},
		{"the first store with an error, an end", func(s *api.SoSeason) { s.Stores[1].Warm[2], s.Stores[2].Name = span(2, 61), "" }, 2, 1, api.ErrRange},
		{"the first store with an error, the days", func(s *api.SoSeason) { s.Stores[1].Warm, s.Stores[2].Name = always(0, 0, 4), "" }, 2, 1, api.ErrLong},
		{"the first store with an error, the rent", func(s *api.SoSeason) { s.Stores[1].Rent, s.Stores[2].Name = -1, "attic" }, 2, 1, api.ErrRange},
		{"the first store with an error, a name", func(s *api.SoSeason) { s.Stores[1].Name, s.Stores[2].Name = "attic", "" }, 2, 1, api.ErrTwice},
	}
}

// brokenDays are seasons of which a store has another number of days, or a span that is not as stated, or nearly so.
func brokenDays() []broken {
	list := []broken{
		{"the order", func(s *api.SoSeason) { s.Stores[0].Warm[0] = span(33, 32) }, 2, 0, api.ErrArg},
		{"the order from end to end", func(s *api.SoSeason) { s.Stores[2].Warm[2] = span(hottest, 0) }, 2, 2, api.ErrArg},
		{"one warmth", func(s *api.SoSeason) { s.Stores[1].Warm = exact(0, hottest, 30) }, 0, 0, api.OK},
		{"an end before its order", func(s *api.SoSeason) { s.Stores[0].Warm[1] = span(hottest+1, 5) }, 2, 0, api.ErrRange},
		{"the other end before its order", func(s *api.SoSeason) { s.Stores[1].Warm[1] = span(5, -1) }, 2, 1, api.ErrRange},
		{"the order before an end of a later day", func(s *api.SoSeason) { s.Stores[1].Warm = spans(0, 0, 2, 1, -1, 0) }, 2, 1, api.ErrArg},
		{"the order of the first day before an end of the last one", func(s *api.SoSeason) { s.Stores[0].Warm = spans(2, 1, 0, 0, 0, 61) }, 2, 0, api.ErrArg},
		{"an end before the order of a later day", func(s *api.SoSeason) { s.Stores[2].Warm = spans(0, 61, 2, 1, 0, 0) }, 2, 2, api.ErrRange},
		{"the last day", func(s *api.SoSeason) { s.Stores[2].Warm[2] = span(1, 0) }, 2, 2, api.ErrArg},
		{"the last one of as many days as there can be", func(s *api.SoSeason) { *s = full(); s.Stores[2].Warm[7] = span(0, 61) }, 2, 2, api.ErrRange},
	}
	for days := range 12 {
		want, at := api.OK, 0
		if days < 1 || days > longest {
			want = api.ErrLong
		}
		list = append(list, broken{"days of all stores", func(s *api.SoSeason) {
			for i := range s.Stores {
				s.Stores[i].Warm = always(5, 6, days)
			}
		}, min(2, 2*int(want)), at, want})
		if days == 3 {
			continue
		}
		for at := 1; at < 3; at++ {
			list = append(list, broken{"days of one store", func(s *api.SoSeason) { s.Stores[at].Warm = always(5, 6, days) }, 2, at, api.ErrLong})
		}
		if want == api.OK {
			at = 1
		}
		list = append(list, broken{"days of the first store", func(s *api.SoSeason) { s.Stores[0].Warm = always(5, 6, days) }, 2, at, api.ErrLong})
	}
	return list
}

// brokenNames are seasons with names, and such as are none.
func brokenNames() []broken {
	var list []broken
	for i := range 3 {
		for _, name := range []string{"", "-", "a-", "-a", "a--b", "Attic", "attic room", "keller-ä", "a1", "a\n", strings.Repeat("a", 21)} {
			list = append(list, broken{"a store without a name", func(s *api.SoSeason) { s.Stores[i].Name = name }, 2, i, api.ErrForm})
		}
		for _, name := range []string{"a", "z", "a-b", "a-b-c", "attic-room", strings.Repeat("z", 20)} {
			list = append(list, broken{"names", func(s *api.SoSeason) { s.Stores[i].Name = name }, 0, 0, api.OK})
		}
	}
	return list
}

// brokenNumbers are seasons of which one number is not in its range, or at one of its ends.
func brokenNumbers() []broken {
	var list []broken
	add := func(name string, part, at, least, most int, number func(s *api.SoSeason) *int) {
		for _, n := range outside(least, most) {
			list = append(list, broken{name, func(s *api.SoSeason) { *number(s) = n }, part, at, api.ErrRange})
		}
		for _, n := range []int{least, most} {
			list = append(list, broken{name + ", at an end", func(s *api.SoSeason) { *number(s) = n }, 0, 0, api.OK})
		}
	}
	add("where candles bend", 1, 0, 0, hottest, func(s *api.SoSeason) *int { return &s.Candle.Bend })
	add("hot days", 1, 0, 1, longest, func(s *api.SoSeason) *int { return &s.Candle.Days })
	add("how far a jump is", 1, 0, 0, hottest, func(s *api.SoSeason) *int { return &s.Candle.Jump })
	add("jumps", 1, 0, 1, longest, func(s *api.SoSeason) *int { return &s.Candle.Times })
	add("a move", 1, 0, 0, dearest, func(s *api.SoSeason) *int { return &s.Move })
	for i := range 3 {
		add("the rent", 2, i, 0, dearest, func(s *api.SoSeason) *int { return &s.Stores[i].Rent })
		for day := range 3 {
			// The other end is as far away as it can be, so that the order is kept.
			add("at least as warm", 2, i, 0, hottest, func(s *api.SoSeason) *int { own := &s.Stores[i].Warm[day]; own.Hi = hottest; return &own.Lo })
			add("at most as warm", 2, i, 0, hottest, func(s *api.SoSeason) *int { own := &s.Stores[i].Warm[day]; own.Lo = 0; return &own.Hi })
		}
	}
	return list
}

// P10.1
func TestCheckNamesTheFirstError(t *testing.T) {
	for _, c := range brokenSeasons() {
		if part, at, e := store.Check(with(c.change)); part != c.part || at != c.at || e != c.e {
			t.Errorf("%s: Check = %d, %d, %d, not %d, %d, %d", c.name, part, at, e, c.part, c.at, c.e)
		}
	}
}

// given are the arguments of all functions.
type given struct {
	s          api.SoSeason
	way, warm  []int
	store, day int
}

// good are arguments without an error.
func good() given {
	return given{s: works(), way: []int{0, 1, 2}, warm: []int{30, 12, 5}, store: 2, day: 1}
}

// changed are good arguments with a change.
func changed(change func(g *given)) given {
	g := good()
	change(&g)
	return g
}

// answers are the errors of all functions but Check.
type answers struct{ fate, risks, show, cost, keeps, cheapest api.Errno }

// ofWay are answers in which all functions with a way return the same error, and the others none.
func ofWay(e api.Errno) answers { return answers{fate: e, risks: e, show: e, cost: e} }

// ofSeason are answers in which all functions return the same error.
func ofSeason(e api.Errno) answers { return answers{e, e, e, e, e, e} }

// ask calls all functions but Check, and reports an error that comes with another result.
func ask(t *testing.T, g given) answers {
	t.Helper()
	var a answers
	var fate api.SoFate
	var hot, jumps, cost, keeps, cents int
	var show, best []int
	fate, a.fate = store.Fate(g.s, g.way, g.warm)
	hot, jumps, a.risks = store.Risks(g.s, g.way)
	show, a.show = store.Show(g.s, g.way)
	cost, a.cost = store.Cost(g.s, g.way)
	keeps, a.keeps = store.Keeps(g.s, g.store, g.day)
	best, cents, a.cheapest = store.Cheapest(g.s)
	for i, c := range []struct {
		e    api.Errno
		zero bool
	}{
		{a.fate, fate == api.SoFate{}},
		{a.risks, hot == 0 && jumps == 0},
		{a.show, len(show) == 0},
		{a.cost, cost == 0},
		{a.keeps, keeps == 0},
		{a.cheapest, len(best) == 0 && cents == 0},
	} {
		if c.e != api.OK && !c.zero || c.e < api.OK || c.e > api.ErrDown {
			t.Fatalf("%v: the function %d returns the error %d and more", g, i, c.e)
		}
	}
	return a
}

// P10.2, P10.3, P10.4, P10.5: arguments without an error have none.
func TestNoError(t *testing.T) {
	if a := ask(t, good()); a != (answers{}) {
		t.Errorf("%v", a)
	}
}

// P10.1, P1: all functions but Check return its error first, whatever else is wrong.
func TestTheErrorOfTheSeasonComesFirst(t *testing.T) {
	for _, c := range brokenSeasons() {
		if c.e == api.OK {
			continue
		}
		for _, g := range []given{
			good(),
			{store: -1, day: -1},
			{way: []int{0, -1}, warm: []int{-1}, store: 3, day: 8},
			{way: make([]int, 9), warm: make([]int, 9), store: 0, day: 9},
			{way: []int{0}, warm: []int{61}, store: 0, day: math.MaxInt},
		} {
			g.s = with(c.change)
			if a := ask(t, g); a != ofSeason(c.e) {
				t.Errorf("%s: %v, not %d", c.name, a, c.e)
			}
		}
	}
}

// P10.2, P10.3, P10.4: a way has from one day to as many as the season.
func TestTheDaysOfAWay(t *testing.T) {
	for days := 1; days <= longest; days++ {
		s := full()
		for i := range s.Stores {
			s.Stores[i].Warm = s.Stores[i].Warm[:days]
		}
		for many := range 12 {
			want := ofWay(api.ErrLong)
			if 1 <= many && many <= days {
				want = answers{}
			}
			// As long as the warmth, or not.
			if a := ask(t, given{s: s, way: make([]int, many), warm: make([]int, many)}); a != want {
				t.Errorf("%d days, %d of the way: %v, not %v", days, many, a, want)
			}
			if want == (answers{}) {
				continue
			}
			for _, store := range []int{0, 2, 3, -1, math.MinInt} {
				for _, warm := range [][]int{nil, make([]int, days), slices.Repeat([]int{61}, many), make([]int, many+1)} {
					if a := ask(t, given{s: s, way: slices.Repeat([]int{store}, many), warm: warm}); a != want {
						t.Errorf("%d days, %d of the way, in %d: %v, not %v", days, many, store, a, want)
					}
				}
			}
		}
	}
	if a := ask(t, changed(func(g *given) { g.way = make([]int, 100000) })); a != ofWay(api.ErrLong) {
		t.Errorf("%v", a)
	}
}

// P10.2, P10.3, P10.4: all stores of a way are of the season.
func TestTheStoresOfAWay(t *testing.T) {
	for stores := 1; stores <= 3; stores++ {
		for day := range 3 {
			for _, n := range append(outside(0, stores-1), 0, 1, 2, 3, 4) {
				for _, warm := range [][]int{{5, 5, 5}, nil, {-1, -1, -1}, {5, 5}} {
					s := with(func(s *api.SoSeason) {
						s.Stores = s.Stores[:stores]
						for i := range s.Stores {
							s.Stores[i].Warm = always(0, 8, 3)
						}
					})
					way := []int{0, 0, 0}
					way[day] = n
					a := ask(t, given{s: s, way: way, warm: warm})
					known := 0 <= n && n < stores
					if known != (a.risks == api.OK) || !known && a != ofWay(api.ErrNone) {
						t.Errorf("%d stores, %v, %v: %v", stores, way, warm, a)
					}
				}
			}
		}
	}
}

// P10.2: there is a warmth for each day of the way, whatever the season has.
func TestTheDaysOfATruth(t *testing.T) {
	for days := 1; days <= 3; days++ {
		for many := range 6 {
			for _, n := range []int{6, -1, 61, math.MaxInt} {
				g := changed(func(g *given) {
					g.s.Stores[0].Warm = always(5, 7, 3)
					g.way, g.warm = make([]int, days), slices.Repeat([]int{n}, many)
				})
				want := answers{}
				switch {
				case many != days:
					want.fate = api.ErrLong
				case n != 6:
					want.fate = api.ErrRange
				}
				if a := ask(t, g); a != want {
					t.Errorf("%d days, %v: %v, not %v", days, g.warm, a, want)
				}
			}
		}
	}
}

// P10.2: each warmth is of the Warm of its store, on its day.
func TestTheRangeOfAWarmth(t *testing.T) {
	s := season(candle(30, 3, 8, 3), 3, house("a", 1, spans(10, 20, 30, 40, 50, 60)), house("b", 2, spans(15, 25, 5, 7, 0, 0)))
	for way := range ways(2, 3) {
		days := along(s, way)
		for day, own := range days {
			for warm := -2; warm <= 62; warm++ {
				for _, others := range []func(s api.Span) int{func(s api.Span) int { return s.Lo }, func(s api.Span) int { return s.Hi }} {
					var list []int
					for _, other := range days {
						list = append(list, others(other))
					}
					list[day] = warm
					want := api.OK
					if warm < own.Lo || warm > own.Hi {
						want = api.ErrRange
					}
					if a := ask(t, given{s: s, way: way, warm: list}); a.fate != want || a.risks != api.OK {
						t.Errorf("%v, %v: %v, not %d", way, list, a, want)
					}
				}
			}
			for _, n := range outside(0, hottest) {
				list := []int{days[0].Lo, days[1].Lo, days[2].Lo}
				list[day] = n
				if a := ask(t, given{s: s, way: way, warm: list}); a.fate != api.ErrRange {
					t.Errorf("%v, %v: %v", way, list, a)
				}
			}
		}
	}
}

// P10.4: the store and the day of Keeps are of the season.
func TestTheErrorOfAStay(t *testing.T) {
	for stores := 1; stores <= 3; stores++ {
		for days := 1; days <= longest; days++ {
			s := full()
			s.Stores = s.Stores[:stores]
			for i := range s.Stores {
				s.Stores[i].Warm = s.Stores[i].Warm[:days]
			}
			for _, at := range append(outside(0, stores-1), 0, 1, 2, 3, 7) {
				for _, day := range append(outside(0, days-1), 0, 1, 2, 3, 7, 8, 9) {
					want := answers{keeps: api.ErrNone}
					if 0 <= at && at < stores && 0 <= day && day < days {
						want = answers{}
					}
					if a := ask(t, given{s: s, way: []int{0}, warm: []int{0}, store: at, day: day}); a != want {
						t.Errorf("%d stores, %d days, %d, %d: %v, not %v", stores, days, at, day, a, want)
					}
				}
			}
		}
	}
}

// P10.5: no way is sound; the other functions still tell what happens.
func TestNoWayIsSound(t *testing.T) {
	for i, s := range []api.SoSeason{
		// It is always too hot.
		with(func(s *api.SoSeason) { s.Candle.Bend, s.Candle.Days = 0, 1 }),
		with(func(s *api.SoSeason) { s.Candle.Bend, s.Candle.Days = 0, 3 }),
		// On one day it can be so in each store.
		with(func(s *api.SoSeason) { s.Candle.Bend, s.Candle.Days = 15, 1 }),
		// There is always a jump.
		season(candle(60, 1, 8, 1), 0, house("a", 0, exact(0, 9)), house("b", 0, exact(0, 9))),
		// On each way there is a trouble, but not the same one.
		season(candle(30, 2, 8, 1), 0, house("a", 0, exact(30, 30)), house("b", 0, exact(0, 21))),
	} {
		g := given{s: s, way: []int{0}, warm: []int{s.Stores[0].Warm[0].Lo}}
		if a := ask(t, g); a != (answers{cheapest: api.ErrDown}) {
			t.Errorf("%d: %v", i, a)
		}
	}
}
