package store_test

import (
	"slices"
	"testing"

	"stearin/api"
	"stearin/store"
)

// fate is on which day candles bend, and on which one they bloom.
func fate(bends, blooms int) api.SoFate { return api.SoFate{Bends: bends, Blooms: blooms} }

// The examples of the chapter: P10.2.
func TestFateOfTheExamples(t *testing.T) {
	for _, c := range []struct {
		warm []int
		want api.SoFate
	}{
		{[]int{30, 31, 10}, fate(1, never)},
		{[]int{20, 29, 10}, fate(never, 2)},
	} {
		if got, e := store.Fate(example(), []int{0, 0, 0}, c.warm); got != c.want || e != api.OK {
			t.Errorf("%v: Fate = %v, %d, not %v", c.warm, got, e, c.want)
		}
	}
}

// The examples of the chapter: P10.3, P10.4.
func TestTheExamplesOfWays(t *testing.T) {
	for _, c := range []struct {
		way              []int
		hot, jumps, cost int
		show             []int
	}{
		{[]int{0, 0, 0}, 2, 2, 3, []int{20, 29, 10}},
		{[]int{0, 1, 1}, 1, 1, 14, []int{21, 12, 12}},
		{[]int{0, 1, 0}, 1, 2, 13, []int{21, 12, 21}},
		{[]int{1, 1, 0}, 0, 1, 14, []int{12, 12, 21}},
		{[]int{1, 1, 1}, 0, 0, 15, []int{12, 12, 12}},
		{[]int{0, 0}, 2, 1, 2, []int{20, 29}},
		{[]int{0, 1}, 1, 1, 9, []int{21, 12}},
		{[]int{1}, 0, 0, 5, []int{12}},
	} {
		if hot, jumps, e := store.Risks(example(), c.way); hot != c.hot || jumps != c.jumps || e != api.OK {
			t.Errorf("%v: Risks = %d, %d, %d, not %d, %d", c.way, hot, jumps, e, c.hot, c.jumps)
		}
		if warm, e := store.Show(example(), c.way); !slices.Equal(warm, c.show) || e != api.OK {
			t.Errorf("%v: Show = %v, %d, not %v", c.way, warm, e, c.show)
		}
		if cents, e := store.Cost(example(), c.way); cents != c.cost || e != api.OK {
			t.Errorf("%v: Cost = %d, %d, not %d", c.way, cents, e, c.cost)
		}
	}
}

// The examples of the chapter: P10.4, P10.5.
func TestTheExamplesOfStays(t *testing.T) {
	for _, c := range []struct{ store, day, want int }{{0, 0, 1}, {0, 1, 2}, {0, 2, 1}, {1, 0, 3}, {1, 1, 2}, {1, 2, 1}} {
		if days, e := store.Keeps(example(), c.store, c.day); days != c.want || e != api.OK {
			t.Errorf("%d, %d: Keeps = %d, %d, not %d", c.store, c.day, days, e, c.want)
		}
	}
	if way, cents, e := store.Cheapest(example()); !slices.Equal(way, []int{0, 1, 1}) || cents != 14 || e != api.OK {
		t.Errorf("Cheapest = %v, %d, %d", way, cents, e)
	}
}

// P10.2: when candles bend, and when they bloom.
func TestFate(t *testing.T) {
	for _, c := range []struct {
		name   string
		candle api.SoCandle
		warm   []int
		want   api.SoFate
	}{
		{"a hot day", candle(30, 1, 60, 8), []int{30}, fate(0, never)},
		{"nearly a hot day", candle(30, 1, 60, 8), []int{29}, fate(never, never)},
		{"a hotter day", candle(30, 1, 60, 8), []int{31}, fate(0, never)},
		{"the first hot day", candle(30, 1, 60, 8), []int{29, 28, 30, 29, 35}, fate(2, never)},
		{"two hot days", candle(30, 2, 60, 8), []int{30, 30}, fate(1, never)},
		{"two hot days, but not one after the other", candle(30, 2, 60, 8), []int{30, 29, 30, 29, 60}, fate(never, never)},
		{"two hot days later", candle(30, 2, 60, 8), []int{30, 29, 30, 31}, fate(3, never)},
		{"more than two hot days", candle(30, 2, 60, 8), []int{29, 30, 30, 30, 30}, fate(2, never)},
		{"two times two hot days", candle(30, 2, 60, 8), []int{29, 30, 30, 29, 30, 30}, fate(2, never)},
		{"three hot days, not two", candle(30, 3, 60, 8), []int{30, 30, 29, 30, 30, 29}, fate(never, never)},
		{"three hot days after two", candle(30, 3, 60, 8), []int{30, 30, 29, 30, 30, 30}, fate(5, never)},
		{"all days are hot", candle(0, 8, 60, 8), make([]int, 8), fate(7, never)},
		{"not as many days as it takes", candle(0, 8, 60, 8), make([]int, 7), fate(never, never)},
		{"as hot as it can be", candle(60, 1, 60, 8), []int{59, 60}, fate(1, never)},
		{"a jump up", candle(60, 8, 8, 1), []int{10, 19}, fate(never, 1)},
		{"a jump down", candle(60, 8, 8, 1), []int{19, 10}, fate(never, 1)},
		{"nearly a jump up", candle(60, 8, 8, 1), []int{10, 18}, fate(never, never)},
		{"nearly a jump down", candle(60, 8, 8, 1), []int{18, 10}, fate(never, never)},
		{"the first day is none", candle(60, 8, 8, 1), []int{50}, fate(never, never)},
		{"two jumps together", candle(60, 8, 8, 2), []int{10, 19, 10}, fate(never, 2)},
		{"two jumps with days between", candle(60, 8, 8, 2), []int{10, 19, 19, 12, 12, 30, 50}, fate(never, 5)},
		{"two jumps in the same direction", candle(60, 8, 8, 2), []int{10, 19, 28, 37}, fate(never, 2)},
		{"one jump of two", candle(60, 8, 8, 2), []int{10, 19, 19, 18}, fate(never, never)},
		{"from the day before alone", candle(60, 8, 8, 1), []int{10, 15, 20, 25, 30, 22, 14}, fate(never, never)},
		{"each change is a jump", candle(60, 8, 0, 3), []int{10, 11, 11, 10, 11}, fate(never, 4)},
		{"nothing is a jump", candle(60, 8, 60, 1), []int{0, 60, 0, 60}, fate(never, never)},
		{"nearly nothing is one", candle(60, 8, 59, 3), []int{0, 60, 0, 59, 0, 60}, fate(never, 5)},
		{"as many jumps as there can be", candle(60, 8, 8, 7), []int{0, 9, 0, 9, 0, 9, 0, 9}, fate(never, 7)},
		{"more jumps than there can be", candle(60, 8, 8, 8), []int{0, 9, 0, 9, 0, 9, 0, 9}, fate(never, never)},
		{"both", candle(30, 2, 8, 2), []int{10, 30, 30, 10}, fate(2, 3)},
		{"both on the same day", candle(30, 2, 8, 2), []int{10, 30, 40}, fate(2, 2)},
		{"they bloom before they bend", candle(30, 2, 8, 1), []int{10, 30, 35}, fate(2, 1)},
	} {
		// It can be colder and warmer, too.
		var wide []api.Span
		for _, w := range c.warm {
			wide = append(wide, span(max(0, w-20), min(hottest, w+20)))
		}
		for _, days := range [][]api.Span{exact(c.warm...), wide, always(0, hottest, len(c.warm))} {
			s := alone(c.candle, days)
			if got, e := store.Fate(s, make([]int, len(c.warm)), c.warm); got != c.want || e != api.OK {
				t.Errorf("%s: Fate = %v, %d, not %v", c.name, got, e, c.want)
			}
		}
	}
}

// P10.2: what happens does not depend on where it does; a way can be one for the first days alone.
func TestFateOfAnyWay(t *testing.T) {
	s := with(func(s *api.SoSeason) {
		for i := range s.Stores {
			s.Stores[i].Warm = always(0, hottest, 3)
		}
	})
	warm := []int{30, 40, 10}
	for days, want := range map[int]api.SoFate{1: fate(never, never), 2: fate(1, never), 3: fate(1, 2)} {
		for way := range ways(3, days) {
			if got, e := store.Fate(s, way, warm[:days]); got != want || e != api.OK {
				t.Errorf("%v: Fate = %v, %d, not %v", way, got, e, want)
			}
		}
	}
}

// P10.3: the most hot days and jumps, and the first truth with these.
func TestRisksAndShow(t *testing.T) {
	for _, c := range []struct {
		name       string
		bend, jump int
		days       []api.Span
		hot, jumps int
		show       []int
	}{
		{"one day", 30, 8, spans(10, 29), 0, 0, []int{10}},
		{"one hot day", 30, 8, spans(10, 30), 1, 0, []int{10}},
		{"one day that is always hot", 30, 8, spans(31, 40), 1, 0, []int{31}},
		{"each day is hot", 0, 60, always(0, 0, 8), 8, 0, make([]int, 8)},
		{"hot days in two rows", 30, 60, spans(0, 30, 0, 31, 0, 29, 0, 30, 0, 60, 30, 30, 0, 0), 3, 0, []int{0, 0, 0, 0, 0, 30, 0}},
		{"the longer row comes first", 30, 60, exact(30, 30, 30, 0, 30, 30), 3, 0, []int{30, 30, 30, 0, 30, 30}},
		{"no jump", 60, 8, spans(10, 18, 10, 18), 0, 0, []int{10, 10}},
		{"a jump", 60, 8, spans(10, 18, 10, 19), 0, 1, []int{10, 19}},
		{"a jump down", 60, 8, spans(10, 19, 10, 12), 0, 1, []int{19, 10}},
		{"a jump up and down", 60, 8, always(10, 19, 3), 0, 2, []int{10, 19, 10}},
		{"as often as there can be", 60, 8, always(10, 19, 8), 0, 7, []int{10, 19, 10, 19, 10, 19, 10, 19}},
		{"from between the ends", 60, 8, spans(0, 0, 0, 20, 20, 20), 0, 2, []int{0, 9, 20}},
		{"from between the ends, farther", 60, 9, spans(0, 0, 0, 20, 20, 20), 0, 2, []int{0, 10, 20}},
		{"between the ends one jump is too little", 60, 10, spans(0, 0, 0, 20, 20, 20), 0, 1, []int{0, 0, 20}},
		{"the jump can be the first one or the second one", 60, 8, spans(0, 9, 0, 9, 5, 5), 0, 1, []int{0, 9, 5}},
		{"it waits for two jumps", 60, 8, spans(0, 9, 0, 20, 18, 18), 0, 2, []int{0, 9, 18}},
		{"the first day is lowest in the middle", 60, 8, spans(0, 20, 0, 3, 20, 20), 0, 2, []int{9, 0, 20}},
		{"it goes up step by step", 60, 0, spans(0, 5, 0, 5, 0, 5, 0, 0), 0, 3, []int{0, 1, 2, 0}},
		{"each change is a jump", 60, 0, spans(5, 6, 5, 5, 5, 6), 0, 2, []int{6, 5, 6}},
		{"nothing is a jump", 60, 60, always(0, 60, 3), 3, 0, []int{0, 0, 0}},
		{"nearly nothing is a jump", 60, 59, always(0, 60, 3), 3, 2, []int{0, 60, 0}},
		{"hot and cold in different truths", 30, 8, spans(20, 30, 20, 30, 20, 30), 3, 2, []int{20, 29, 20}},
		{"a day on which all is the same", 60, 8, spans(0, 60, 30, 30, 0, 60), 1, 2, []int{0, 30, 0}},
	} {
		s := alone(candle(c.bend, 1, c.jump, 1), c.days)
		way := make([]int, len(c.days))
		if hot, jumps, e := store.Risks(s, way); hot != c.hot || jumps != c.jumps || e != api.OK {
			t.Errorf("%s: Risks = %d, %d, %d, not %d, %d", c.name, hot, jumps, e, c.hot, c.jumps)
		}
		if warm, e := store.Show(s, way); !slices.Equal(warm, c.show) || e != api.OK {
			t.Errorf("%s: Show = %v, %d, not %v", c.name, warm, e, c.show)
		}
	}
}

// P10.3: Days and Times do not change how often it can be hot, or jump.
func TestRisksDoNotEndWithATrouble(t *testing.T) {
	for days := 1; days <= longest; days++ {
		for times := 1; times <= longest; times++ {
			s := alone(candle(30, days, 8, times), always(20, 30, longest))
			if hot, jumps, e := store.Risks(s, make([]int, longest)); hot != 8 || jumps != 7 || e != api.OK {
				t.Errorf("%d, %d: Risks = %d, %d, %d", days, times, hot, jumps, e)
			}
			if warm, e := store.Show(s, make([]int, longest)); !slices.Equal(warm, []int{20, 29, 20, 29, 20, 29, 20, 29}) || e != api.OK {
				t.Errorf("%d, %d: Show = %v, %d", days, times, warm, e)
			}
		}
	}
}

// P10.4: rents and moves.
func TestCost(t *testing.T) {
	for _, c := range []struct {
		way  []int
		want int
	}{
		{[]int{0}, 1}, {[]int{1}, 5}, {[]int{2}, 2},
		{[]int{0, 0}, 2}, {[]int{0, 1}, 9}, {[]int{1, 0}, 9}, {[]int{2, 1}, 10},
		{[]int{0, 0, 0}, 3}, {[]int{0, 0, 1}, 10}, {[]int{0, 1, 0}, 13}, {[]int{0, 1, 2}, 14}, {[]int{2, 2, 1}, 12}, {[]int{1, 1, 1}, 15},
	} {
		if cents, e := store.Cost(works(), c.way); cents != c.want || e != api.OK {
			t.Errorf("%v: Cost = %d, %d, not %d", c.way, cents, e, c.want)
		}
	}
	// Also a way that is not sound has a cost.
	for _, c := range []struct {
		way  []int
		want int
	}{{slices.Repeat([]int{2}, 8), 800000}, {[]int{0, 1, 2, 1, 0, 1, 0, 2}, 1500000}, {[]int{0, 0, 0, 0, 1, 1, 1, 1}, 900000}} {
		s := full()
		s.Candle = candle(0, 1, 0, 1)
		if cents, e := store.Cost(s, c.way); cents != c.want || e != api.OK {
			t.Errorf("%v: Cost = %d, %d, not %d", c.way, cents, e, c.want)
		}
	}
	free := with(func(s *api.SoSeason) { s.Move = 0 })
	if cents, e := store.Cost(free, []int{0, 1, 2}); cents != 8 || e != api.OK {
		t.Errorf("Cost = %d, %d", cents, e)
	}
}

// P10.4: for how many days a stock can stay from each day on.
func TestKeeps(t *testing.T) {
	for _, c := range []struct {
		name   string
		candle api.SoCandle
		days   []api.Span
		want   []int
	}{
		{"nothing happens", candle(60, 1, 60, 1), always(0, 59, 4), []int{4, 3, 2, 1}},
		{"not even for a day", candle(0, 1, 60, 1), always(0, 59, 4), []int{0, 0, 0, 0}},
		{"until a hot day", candle(30, 1, 60, 1), spans(0, 29, 0, 29, 0, 30, 0, 29), []int{2, 1, 0, 1}},
		{"until two hot days", candle(30, 2, 60, 1), spans(0, 30, 0, 29, 0, 30, 0, 40, 0, 29), []int{3, 2, 1, 2, 1}},
		{"always hot", candle(0, 3, 60, 1), always(5, 6, 5), []int{2, 2, 2, 2, 1}},
		{"until a jump", candle(60, 1, 8, 1), spans(0, 8, 0, 8, 0, 9, 1, 9, 1, 9), []int{2, 1, 1, 2, 1}},
		{"until two jumps", candle(60, 1, 8, 2), exact(0, 9, 9, 0, 9, 9), []int{3, 3, 2, 3, 2, 1}},
		{"the jump to the first day does not count", candle(60, 1, 8, 1), exact(0, 9, 18, 27), []int{1, 1, 1, 1}},
		{"the hot days before do not count", candle(30, 3, 60, 1), exact(30, 30, 30, 30, 0), []int{2, 2, 3, 2, 1}},
		{"they bend before they bloom", candle(30, 2, 8, 2), exact(10, 30, 30, 10), []int{2, 1, 2, 1}},
		{"they bloom before they bend", candle(30, 2, 8, 1), exact(10, 30, 30, 30), []int{1, 1, 1, 1}},
		{"either, in another truth", candle(30, 2, 8, 2), always(20, 30, 3), []int{1, 1, 1}},
		{"as long as there can be", candle(30, 8, 8, 8), always(20, 29, 8), []int{8, 7, 6, 5, 4, 3, 2, 1}},
		{"nearly as long", candle(30, 8, 8, 7), always(20, 29, 8), []int{7, 7, 6, 5, 4, 3, 2, 1}},
		{"all but the last one of the hot days", candle(20, 8, 8, 8), always(20, 29, 8), []int{7, 7, 6, 5, 4, 3, 2, 1}},
	} {
		s := season(c.candle, 7, house("other", 0, always(0, 60, len(c.days))), house("own", 3, c.days), house("third", 0, always(0, 0, len(c.days))))
		for day, want := range c.want {
			if days, e := store.Keeps(s, 1, day); days != want || e != api.OK {
				t.Errorf("%s: Keeps from %d = %d, %d, not %d", c.name, day, days, e, want)
			}
		}
	}
}

// P10.5: the best way, and which one of several.
func TestCheapest(t *testing.T) {
	cold, hot := func(rent, days int) api.SoStore { return house("cold", rent, always(5, 5, days)) }, func(rent, days int) api.SoStore { return house("hot", rent, always(30, 30, days)) }
	for _, c := range []struct {
		name  string
		s     api.SoSeason
		way   []int
		cents int
	}{
		{"one store, one day", season(candle(30, 1, 8, 1), 3, cold(7, 1)), []int{0}, 7},
		{"as dear as there can be", full(), make([]int, 8), 800000},
		{"for nothing", season(candle(30, 1, 8, 1), 3, cold(0, 8)), make([]int, 8), 0},
		{"the cheaper one of two", season(candle(30, 8, 60, 1), 3, cold(7, 3), hot(6, 3)), []int{1, 1, 1}, 18},
		{"the first one of two", season(candle(30, 8, 60, 1), 3, cold(6, 3), hot(6, 3)), []int{0, 0, 0}, 18},
		{"the first one of two, for no move", season(candle(30, 8, 60, 1), 0, cold(6, 3), hot(6, 3)), []int{0, 0, 0}, 18},
		{"the cheaper one is too hot", season(candle(30, 1, 60, 1), 3, hot(6, 3), cold(7, 3)), []int{1, 1, 1}, 21},
		{"too hot for two days", season(candle(30, 2, 60, 1), 0, hot(1, 4), cold(7, 4)), []int{0, 1, 0, 1}, 16},
		{"too hot for two days, an odd number", season(candle(30, 2, 60, 1), 0, hot(1, 5), cold(7, 5)), []int{0, 1, 0, 1, 0}, 17},
		{"too hot for three days", season(candle(30, 3, 60, 1), 0, hot(1, 4), cold(7, 4)), []int{0, 0, 1, 0}, 10},
		{"of as cheap ones the first one", season(candle(30, 3, 60, 1), 3, hot(1, 4), cold(7, 4)), []int{0, 0, 1, 0}, 16},
		{"a move is too dear", season(candle(30, 3, 60, 1), 10, hot(1, 4), cold(7, 4)), []int{0, 0, 1, 1}, 26},
		{"two moves are too dear", season(candle(30, 3, 60, 1), 100, hot(1, 4), cold(7, 4)), []int{1, 1, 1, 1}, 28},
		{"the move is a jump, too", season(candle(30, 3, 8, 1), 3, hot(1, 4), cold(7, 4)), []int{1, 1, 1, 1}, 28},
		{"one move can be", season(candle(30, 3, 8, 2), 3, hot(1, 4), cold(7, 4)), []int{0, 0, 1, 1}, 19},
		{"a later store that is cheaper in the end", season(candle(60, 1, 8, 1), 3, house("a", 1, exact(0, 0, 20)), house("b", 2, exact(5, 5, 5))), []int{1, 1, 1}, 6},
		{"over a third one", season(candle(30, 1, 8, 1), 1, house("a", 1, exact(0, 30, 30)), house("b", 9, exact(30, 8, 30)), house("c", 1, exact(30, 30, 16))), []int{0, 1, 2}, 13},
		{"it costs no more to wait", season(candle(60, 1, 8, 1), 5, house("a", 1, exact(0, 0, 0, 20)), house("b", 1, exact(8, 8, 8, 8))), []int{1, 1, 1, 1}, 4},
		{"a day in the dearer one is a jump less", season(candle(60, 1, 8, 2), 0, house("a", 2, exact(0, 0, 20, 20)), house("b", 1, exact(0, 20, 0, 20))), []int{1, 0, 1, 1}, 5},
	} {
		way, cents, e := store.Cheapest(c.s)
		if !slices.Equal(way, c.way) || cents != c.cents || e != api.OK {
			t.Errorf("%s: Cheapest = %v, %d, %d, not %v, %d", c.name, way, cents, e, c.way, c.cents)
		}
	}
}
