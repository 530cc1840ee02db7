package store_test

import (
	"math/rand"
	"slices"
	"testing"

	"stearin/api"
	"stearin/store"
)

// seen counts what random seasons had, so that a test can tell whether it had all of it.
type seen map[string]int

// add counts one more, if something is so.
func (m seen) add(name string, so bool) {
	if so {
		m[name]++
	}
}

// atLeast reports what was seen less often.
func (m seen) atLeast(t *testing.T, times int, names ...string) {
	t.Helper()
	for _, name := range names {
		if m[name] < times {
			t.Errorf("%s: %v", name, m)
		}
	}
}

// P10.2, P10.3, P10.6: all truths of short ways.
func TestAllTruthsOfAWay(t *testing.T) {
	many := seen{}
	eachSeason(106, 4000, size{8, 4, 5, 5}, func(r *rand.Rand, s api.SoSeason) {
		way := anyWay(r, s)
		k := knownOf(s.Candle, along(s, way))
		if hot, jumps, e := store.Risks(s, way); hot != k.hot || jumps != k.jumps || e != api.OK {
			t.Fatalf("%v, %v: Risks = %d, %d, %d, not %d, %d", s, way, hot, jumps, e, k.hot, k.jumps)
		}
		if warm, e := store.Show(s, way); !slices.Equal(warm, k.show) || e != api.OK {
			t.Fatalf("%v, %v: Show = %v, %d, not %v", s, way, warm, e, k.show)
		}
		for warm := range truths(along(s, way)) {
			want := fateOf(s.Candle, warm)
			if got, e := store.Fate(s, way, warm); got != want || e != api.OK {
				t.Fatalf("%v, %v, %v: Fate = %v, %d, not %v", s, way, warm, got, e, want)
			}
			many.add("bends", want.Bends != never)
			many.add("blooms", want.Blooms != never)
			many.add("later", want.Bends > s.Candle.Days || want.Blooms > s.Candle.Times)
		}
		many.add("hot", k.hot > 1)
		many.add("jumps", k.jumps > 1)
		many.add("neither", k.hot == 0 && k.jumps == 0)
	})
	many.atLeast(t, 300, "bends", "blooms", "later", "hot", "jumps", "neither")
}

// P10.4, P10.7: all truths of all stays in small seasons: a stay is sound for as many days as Keeps says, and not for a day more.
func TestAllStays(t *testing.T) {
	many := seen{}
	eachSeason(104, 3000, small(), func(r *rand.Rand, s api.SoSeason) {
		for at, x := range s.Stores {
			for day := range x.Warm {
				rest := x.Warm[day:]
				kept, e := store.Keeps(s, at, day)
				if e != api.OK || kept < 0 || kept > len(rest) {
					t.Fatalf("%v: Keeps of %d from %d = %d, %d", s, at, day, kept, e)
				}
				for days := range len(rest) {
					if sound := knownOf(s.Candle, rest[:days+1]).sound; sound != (days+1 <= kept) {
						t.Fatalf("%v: Keeps of %d from %d = %d, but for %d: %t", s, at, day, kept, days+1, sound)
					}
				}
				many.add("none", kept == 0)
				many.add("some", kept > 0 && kept < len(rest))
				many.add("all", kept == len(rest))
			}
		}
	})
	many.atLeast(t, 1000, "none", "some", "all")
}

// P10.5, P10.7, P10.8: all truths of all ways through small seasons.
func TestAllWays(t *testing.T) {
	many := seen{}
	eachSeason(105, 10000, small(), func(r *rand.Rand, s api.SoSeason) {
		best, cents, exists := bestBy(s, func(c api.SoCandle, days []api.Span) bool { return knownOf(c, days).sound })
		way, own, e := store.Cheapest(s)
		if !slices.Equal(way, best) || own != cents || exists != (e == api.OK) || !exists && e != api.ErrDown {
			t.Fatalf("%v: Cheapest = %v, %d, %d, not %v, %d, %t", s, way, own, e, best, cents, exists)
		}
		many.add("none", !exists)
		many.add("moved", len(slices.Compact(slices.Clone(best))) > 1)
		many.add("stayed", exists && len(slices.Compact(slices.Clone(best))) == 1)
	})
	many.atLeast(t, 500, "none", "moved", "stayed")
}

// P10.3, P10.6: Risks of long ways is told by another way, and Show is the first truth with as many jumps.
func TestRisksOfLongWays(t *testing.T) {
	many := seen{}
	eachSeason(103, 20000, large(), func(r *rand.Rand, s api.SoSeason) {
		way := anyWay(r, s)
		days := along(s, way)
		hot, jumps, e := store.Risks(s, way)
		if hot != mostHot(s.Candle, days) || jumps != mostJumps(s.Candle, days) || e != api.OK {
			t.Fatalf("%v, %v: Risks = %d, %d, %d, not %d, %d", s, way, hot, jumps, e, mostHot(s.Candle, days), mostJumps(s.Candle, days))
		}
		warm, e := store.Show(s, way)
		if len(warm) != len(way) || e != api.OK || len(jumpsOn(s.Candle, warm)) != jumps {
			t.Fatalf("%v, %v: Show = %v, %d; %d jumps", s, way, warm, e, jumps)
		}
		for day, w := range warm {
			if w < days[day].Lo || w > days[day].Hi {
				t.Fatalf("%v, %v: Show = %v", s, way, warm)
			}
			// From each lower warmth on there are fewer jumps.
			for lower := days[day].Lo; lower < w; lower++ {
				other := slices.Concat(exact(warm[:day]...), exact(lower), days[day+1:])
				if mostJumps(s.Candle, other) >= jumps {
					t.Fatalf("%v, %v: Show = %v, but there is one with %d on the day %d", s, way, warm, lower, day)
				}
			}
			many.add("between", w > days[day].Lo && w < days[day].Hi)
			many.add("lower", w == days[day].Lo && w < days[day].Hi)
			many.add("upper", w > days[day].Lo && w == days[day].Hi)
		}
		many.add("many", jumps > 3)
		many.add("hot", hot > 3)
	})
	many.atLeast(t, 300, "between", "lower", "upper", "many", "hot")
}

// P10.6, P10.2: no random truth of a long way has more, and what happens to it is as the definition says; there is one with as many hot days.
func TestRandomTruths(t *testing.T) {
	many := seen{}
	eachSeason(1060, 5000, large(), func(r *rand.Rand, s api.SoSeason) {
		way := anyWay(r, s)
		days := along(s, way)
		hot, jumps, _ := store.Risks(s, way)
		for range 5 {
			warm := anyTruth(r, days)
			if hotDays(s.Candle, warm) > hot || len(jumpsOn(s.Candle, warm)) > jumps {
				t.Fatalf("%v, %v: Risks = %d, %d, but %v", s, way, hot, jumps, warm)
			}
			want := fateOf(s.Candle, warm)
			if got, e := store.Fate(s, way, warm); got != want || e != api.OK {
				t.Fatalf("%v, %v, %v: Fate = %v, %d, not %v", s, way, warm, got, e, want)
			}
			many.add("bends", want.Bends > 0)
			many.add("blooms", want.Blooms > 0)
			many.add("neither", want == well())
		}
		var hottest []int
		for _, day := range days {
			hottest = append(hottest, day.Hi)
		}
		if hotDays(s.Candle, hottest) != hot {
			t.Fatalf("%v, %v: Risks = %d, but not %v", s, way, hot, hottest)
		}
	})
	many.atLeast(t, 500, "bends", "blooms", "neither")
}

// P10.5, P10.8: all ways through long seasons.
func TestAllLongWays(t *testing.T) {
	many := seen{}
	for _, z := range []size{large(), {hottest, 12, longest, 5}} {
		eachSeason(108, 5000, z, func(r *rand.Rand, s api.SoSeason) {
			if r.Intn(2) == 0 {
				s.Candle = api.SoCandle{Bend: 25 + r.Intn(30), Days: 2 + r.Intn(3), Jump: 5 + r.Intn(30), Times: 1 + r.Intn(5)}
			}
			best, cents, exists := bestBy(s, isSound)
			way, own, e := store.Cheapest(s)
			if !slices.Equal(way, best) || own != cents || exists != (e == api.OK) || !exists && e != api.ErrDown {
				t.Fatalf("%v: Cheapest = %v, %d, %d, not %v, %d, %t", s, way, own, e, best, cents, exists)
			}
			many.add("none", !exists)
			many.add("moved", len(slices.Compact(slices.Clone(best))) > 1)
			many.add("often", len(slices.Compact(slices.Clone(best))) > 3)
			many.add("stayed", exists && len(slices.Compact(slices.Clone(best))) == 1)
			many.add("long", exists && len(best) == longest)
		})
	}
	many.atLeast(t, 200, "none", "moved", "often", "stayed", "long")
}

// P10.7: in no truth of the way of Cheapest candles bend or bloom, and it costs what is said.
func TestTheBestWayIsSound(t *testing.T) {
	many := seen{}
	for _, z := range []size{small(), large(), {hottest, 12, longest, 5}} {
		eachSeason(107, 3000, z, func(r *rand.Rand, s api.SoSeason) {
			way, cents, e := store.Cheapest(s)
			if e != api.OK {
				return
			}
			cost, f := store.Cost(s, way)
			hot, jumps, g := store.Risks(s, way)
			if len(way) != length(s) || cost != cents || cost != price(s, way) || hot >= s.Candle.Days || jumps >= s.Candle.Times || f != api.OK || g != api.OK {
				t.Fatalf("%v: Cheapest = %v, %d; Cost = %d, %d; Risks = %d, %d, %d", s, way, cents, cost, f, hot, jumps, g)
			}
			for range 5 {
				warm := anyTruth(r, along(s, way))
				if got, e := store.Fate(s, way, warm); got != well() || fateOf(s.Candle, warm) != well() || e != api.OK {
					t.Fatalf("%v, %v, %v: Fate = %v, %d", s, way, warm, got, e)
				}
			}
			many.add("near", hot > 0 && hot == s.Candle.Days-1 && jumps > 0 && jumps == s.Candle.Times-1)
			many.add("sound", true)
		})
	}
	many.atLeast(t, 200, "near", "sound")
}

// P10.4, P10.7: long stays. They are sound just for as many days as Keeps says.
func TestLongStays(t *testing.T) {
	many := seen{}
	eachSeason(1070, 5000, large(), func(r *rand.Rand, s api.SoSeason) {
		for at, x := range s.Stores {
			for day := range x.Warm {
				want := 0
				for want < len(x.Warm)-day && isSound(s.Candle, x.Warm[day:day+want+1]) {
					want++
				}
				if kept, e := store.Keeps(s, at, day); kept != want || e != api.OK {
					t.Fatalf("%v: Keeps of %d from %d = %d, %d, not %d", s, at, day, kept, e, want)
				}
				many.add("none", want == 0)
				many.add("some", want > 0 && day+want < len(x.Warm))
				many.add("all", day+want == len(x.Warm))
				many.add("long", want > 4)
			}
		}
	})
	many.atLeast(t, 500, "none", "some", "all", "long")
}

// soundBy reports whether a way is sound, as Risks says.
func soundBy(s api.SoSeason, way []int) bool {
	hot, jumps, e := store.Risks(s, way)
	return e == api.OK && hot < s.Candle.Days && jumps < s.Candle.Times
}

// P10.9: with a day more Risks says no less; so candles are sound on the first days of a sound way.
func TestOnAndOn(t *testing.T) {
	many := seen{}
	eachWay(109, 4000, func(r *rand.Rand, s api.SoSeason, way []int) {
		hot, jumps := 0, 0
		sound := true
		for days := range way {
			more, further, e := store.Risks(s, way[:days+1])
			if more < hot || more > hot+1 || further < jumps || further > jumps+1 || e != api.OK {
				t.Fatalf("%v, %v: Risks of %d days = %d, %d, %d, after %d, %d", s, way, days+1, more, further, e, hot, jumps)
			}
			if now := soundBy(s, way[:days+1]); now && !sound {
				t.Fatalf("%v, %v: sound for %d days, but not for fewer", s, way, days+1)
			} else {
				many.add("no more", sound && !now)
				sound = now
			}
			hot, jumps = more, further
		}
		many.add("sound", sound)
		warm := anyTruth(r, along(s, way))
		got, _ := store.Fate(s, way, warm)
		for days := range way {
			// What happens on the first days happens on all of them, on the same day.
			early, _ := store.Fate(s, way[:days+1], warm[:days+1])
			if early.Bends != got.Bends && (early.Bends != never || got.Bends <= days) || early.Blooms != got.Blooms && (early.Blooms != never || got.Blooms <= days) {
				t.Fatalf("%v, %v, %v: Fate = %v, but after %d days %v", s, way, warm, got, days+1, early)
			}
		}
	})
	many.atLeast(t, 500, "sound", "no more")
}

// backwards is a copy of a list the other way round.
func backwards[T any](list []T) []T {
	list = slices.Clone(list)
	slices.Reverse(list)
	return list
}

// P10.10: a season that goes backwards.
func TestBackwards(t *testing.T) {
	many := seen{}
	eachWay(1010, 6000, func(r *rand.Rand, s api.SoSeason, way []int) {
		// Just of these days there is as well a season that goes backwards.
		s = copyOf(s)
		back := copyOf(s)
		for i := range s.Stores {
			s.Stores[i].Warm = s.Stores[i].Warm[:len(way)]
			back.Stores[i].Warm = backwards(s.Stores[i].Warm)
		}
		hot, jumps, e := store.Risks(s, way)
		other, others, f := store.Risks(back, backwards(way))
		if hot != other || jumps != others || e != api.OK || f != api.OK {
			t.Fatalf("%v, %v: Risks = %d, %d, %d, but backwards %d, %d, %d", s, way, hot, jumps, e, other, others, f)
		}
		many.add("both", hot > 1 && jumps > 1)
		// A best way is one backwards, too, of the same cost.
		_, cents, e := store.Cheapest(s)
		_, same, f := store.Cheapest(back)
		if cents != same || e != f {
			t.Fatalf("%v: Cheapest = %d, %d, but backwards %d, %d", s, cents, e, same, f)
		}
		many.add("down", e == api.ErrDown)
		many.add("cents", cents > 0)
	})
	many.atLeast(t, 500, "both", "down", "cents")
}

// P10.11: with a wider Warm Risks says no less, and nothing keeps for longer, or is cheaper.
func TestWider(t *testing.T) {
	many := seen{}
	eachWay(1011, 4000, func(r *rand.Rand, s api.SoSeason, way []int) {
		wider := copyOf(s)
		for _, x := range wider.Stores {
			for day, own := range x.Warm {
				if r.Intn(3) == 0 {
					x.Warm[day] = span(r.Intn(own.Lo+1), own.Hi+r.Intn(hottest-own.Hi+1))
				}
			}
		}
		hot, jumps, _ := store.Risks(s, way)
		more, further, e := store.Risks(wider, way)
		if more < hot || further < jumps || e != api.OK {
			t.Fatalf("%v, %v: Risks = %d, %d, but wider %v: %d, %d, %d", s, way, hot, jumps, wider, more, further, e)
		}
		many.add("hotter", more > hot)
		many.add("jumps", further > jumps)
		many.add("same", more == hot && further == jumps)
		_, cents, e := store.Cheapest(s)
		_, dearer, f := store.Cheapest(wider)
		if e != api.OK && f == api.OK || f == api.OK && dearer < cents {
			t.Fatalf("%v: Cheapest = %d, %d, but wider %v: %d, %d", s, cents, e, wider, dearer, f)
		}
		many.add("dearer", f == api.OK && dearer > cents)
		for at := range s.Stores {
			for day := range length(s) {
				long, _ := store.Keeps(s, at, day)
				if short, _ := store.Keeps(wider, at, day); short > long {
					t.Fatalf("%v: Keeps of %d from %d = %d, but wider %v: %d", s, at, day, long, wider, short)
				}
			}
		}
	})
	many.atLeast(t, 50, "hotter", "jumps", "same", "dearer")
}

// P10.11: with a further store Cheapest is no dearer.
func TestAFurtherStore(t *testing.T) {
	many := seen{}
	for _, z := range []size{small(), large()} {
		eachSeason(10110, 6000, z, func(r *rand.Rand, s api.SoSeason) {
			if len(s.Stores) < 2 {
				return
			}
			fewer := copyOf(s)
			at := r.Intn(len(s.Stores))
			fewer.Stores = slices.Delete(fewer.Stores, at, at+1)
			_, cents, e := store.Cheapest(fewer)
			way, cheaper, f := store.Cheapest(s)
			if e == api.OK && (f != api.OK || cheaper > cents) {
				t.Fatalf("%v: Cheapest = %d, %d, but with %d %d, %d", fewer, cents, e, at, cheaper, f)
			}
			many.add("cheaper", e == api.OK && cheaper < cents)
			many.add("same", e == api.OK && cheaper == cents)
			many.add("now there is one", e != api.OK && f == api.OK)
			if f == api.OK && !slices.Contains(way, at) && (e != api.OK || cheaper != cents) {
				t.Fatalf("%v: Cheapest = %v, %d, but without %d %d, %d", s, way, cheaper, at, cents, e)
			}
		})
	}
	many.atLeast(t, 200, "cheaper", "same", "now there is one")
}

// P10.12: with greater Bend, Days, Jump and Times what was sound still is.
func TestMilder(t *testing.T) {
	many := seen{}
	eachWay(1012, 6000, func(r *rand.Rand, s api.SoSeason, way []int) {
		milder := copyOf(s)
		for _, c := range []struct {
			n    *int
			most int
		}{{&milder.Candle.Bend, hottest}, {&milder.Candle.Days, longest}, {&milder.Candle.Jump, hottest}, {&milder.Candle.Times, longest}} {
			if r.Intn(2) == 0 {
				*c.n = min(c.most, *c.n+r.Intn(4))
			}
		}
		sound, still := soundBy(s, way), soundBy(milder, way)
		_, cents, e := store.Cheapest(s)
		_, cheaper, f := store.Cheapest(milder)
		if sound && !still || e == api.OK && (f != api.OK || cheaper > cents) {
			t.Fatalf("%v, %v: %t; Cheapest = %d, %d, but with %v %t; %d, %d", s, way, sound, cents, e, milder.Candle, still, cheaper, f)
		}
		many.add("sound", sound)
		many.add("now sound", still && !sound)
		many.add("cheaper", e == api.OK && cheaper < cents)
		for at := range s.Stores {
			for day := range length(s) {
				short, _ := store.Keeps(s, at, day)
				if long, _ := store.Keeps(milder, at, day); short > long {
					t.Fatalf("%v: Keeps of %d from %d = %d, but with %v %d", s, at, day, short, milder.Candle, long)
				}
			}
		}
	})
	many.atLeast(t, 200, "sound", "now sound", "cheaper")
}

// P10.12: if all stores are warmer by the same number of degrees, and Bend is greater by it, all is the same.
func TestWarmer(t *testing.T) {
	many := seen{}
	eachWay(10120, 4000, func(r *rand.Rand, s api.SoSeason, way []int) {
		lowest, highest := s.Candle.Bend, s.Candle.Bend
		for _, x := range s.Stores {
			for _, own := range x.Warm {
				lowest, highest = min(lowest, own.Lo), max(highest, own.Hi)
			}
		}
		by := r.Intn(lowest+hottest-highest+1) - lowest
		warmer := copyOf(s)
		warmer.Candle.Bend += by
		for _, x := range warmer.Stores {
			for day := range x.Warm {
				x.Warm[day].Lo += by
				x.Warm[day].Hi += by
			}
		}
		warm := anyTruth(r, along(s, way))
		more := slices.Clone(warm)
		for day := range more {
			more[day] += by
		}
		a, b := askAll(s, way, warm), askAll(warmer, way, more)
		for day := range b.show {
			b.show[day] -= by
		}
		if !a.same(b) {
			t.Fatalf("%v, %v, %v: %v, but warmer by %d %v", s, way, warm, a, by, b)
		}
		many.add("warmer", by > 0)
		many.add("colder", by < 0)
		many.add("sound", a.down == api.OK)
		many.add("down", a.down != api.OK)
	})
	many.atLeast(t, 500, "warmer", "colder", "sound", "down")
}

// P10.13: if rents and Move are all multiplied by the same number, the best way costs as many times as much, and is the same.
func TestCostsTimesANumber(t *testing.T) {
	many := seen{}
	eachWay(1013, 4000, func(r *rand.Rand, s api.SoSeason, way []int) {
		most := s.Move
		for _, x := range s.Stores {
			most = max(most, x.Rent)
		}
		times := r.Intn(dearest/max(1, most) + 1)
		if r.Intn(2) == 0 {
			times = min(times, r.Intn(4))
		}
		dearer := copyOf(s)
		dearer.Move *= times
		for i := range dearer.Stores {
			dearer.Stores[i].Rent *= times
		}
		best, cents, e := store.Cheapest(s)
		own, all, f := store.Cheapest(dearer)
		// If nothing costs anything, all ways are as cheap.
		if all != times*cents || e != f || times > 0 && !slices.Equal(own, best) {
			t.Fatalf("%v: Cheapest = %v, %d, %d, but %d times as dear %v, %d, %d", s, best, cents, e, times, own, all, f)
		}
		cost, e := store.Cost(s, way)
		if all, f := store.Cost(dearer, way); all != times*cost || e != f {
			t.Fatalf("%v, %v: Cost = %d, %d, but %d times as dear %d, %d", s, way, cost, e, times, all, f)
		}
		many.add("nothing", times == 0 && cents > 0)
		many.add("more", times > 1 && cents > 0)
	})
	many.atLeast(t, 500, "nothing", "more")
}

// same reports whether two answers are the same.
func (a answer) same(b answer) bool {
	return a.fate == b.fate && a.hot == b.hot && a.jumps == b.jumps && a.cost == b.cost && a.cents == b.cents &&
		a.fated == b.fated && a.risky == b.risky && a.down == b.down && a.keeps == b.keeps &&
		slices.Equal(a.show, b.show) && slices.Equal(a.best, b.best)
}

// P10.2, P10.3, P10.4, P10.5: the names of stores do not matter, and other stores than those of a way change nothing of it.
func TestNamesAndOtherStores(t *testing.T) {
	eachWay(1014, 2000, func(r *rand.Rand, s api.SoSeason, way []int) {
		named := copyOf(s)
		for i := range named.Stores {
			named.Stores[i].Name += "-z"
		}
		warm := anyTruth(r, along(s, way))
		if a, b := askAll(s, way, warm), askAll(named, way, warm); !a.same(b) {
			t.Fatalf("%v, %v: %v, not %v", s, way, b, a)
		}
		other := copyOf(s)
		for i, x := range other.Stores {
			for day := range x.Warm {
				if day >= len(way) || way[day] != i {
					x.Warm[day] = anySpan(r, large())
				}
			}
		}
		a, b := askAll(s, way, warm), askAll(other, way, warm)
		if a.fate != b.fate || a.hot != b.hot || a.jumps != b.jumps || a.cost != b.cost || !slices.Equal(a.show, b.show) {
			t.Fatalf("%v, %v, %v: %v, not %v", s, other, way, b, a)
		}
	})
}
