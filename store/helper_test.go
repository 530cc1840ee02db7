package store_test

import (
	"iter"
	"math"
	"math/rand"
	"slices"

	"stearin/api"
	"stearin/store"
)

// As warm, and as dear, as there can be, and as many days.
const (
	hottest = 60
	dearest = 100000
	longest = 8
)

// never is the day of what does not happen.
const never = -1

// span is the range from one number to another one.
func span(lo, hi int) api.Span { return api.Span{Lo: lo, Hi: hi} }

// spans are ranges from one number to the next one, each.
func spans(ends ...int) []api.Span {
	var list []api.Span
	for pair := range slices.Chunk(ends, 2) {
		list = append(list, span(pair[0], pair[1]))
	}
	return list
}

// exact are ranges in which there is just one number.
func exact(numbers ...int) []api.Span {
	var list []api.Span
	for _, n := range numbers {
		list = append(list, span(n, n))
	}
	return list
}

// always is the same range on each day.
func always(lo, hi, days int) []api.Span { return slices.Repeat(spans(lo, hi), days) }

// candle is a candle.
func candle(bend, days, jump, times int) api.SoCandle {
	return api.SoCandle{Bend: bend, Days: days, Jump: jump, Times: times}
}

// house is a store with a name.
func house(name string, rent int, warm []api.Span) api.SoStore {
	return api.SoStore{Name: name, Rent: rent, Warm: warm}
}

// season is a season.
func season(c api.SoCandle, move int, stores ...api.SoStore) api.SoSeason {
	return api.SoSeason{Candle: c, Move: move, Stores: stores}
}

// example is the season S of the chapter.
func example() api.SoSeason {
	return season(candle(30, 2, 8, 2), 3,
		house("attic", 1, spans(20, 32, 25, 35, 10, 28)),
		house("cellar", 5, always(12, 15, 3)),
	)
}

// works is the season of the chapter with a third store.
func works() api.SoSeason {
	s := example()
	s.Stores = append(s.Stores, house("shed", 2, spans(5, 10, 5, 20, 0, 5)))
	return s
}

// with is the season with three stores, with a change.
func with(change func(s *api.SoSeason)) api.SoSeason {
	s := works()
	change(&s)
	return s
}

// full is a season with as much as there can be, without being too hot on all days.
func full() api.SoSeason {
	s := season(candle(hottest, longest, hottest, longest), dearest)
	for _, name := range []string{"a", "b", "c"} {
		s.Stores = append(s.Stores, house(name, dearest, append(always(0, hottest, longest-1), span(0, hottest-1))))
	}
	return s
}

// alone is a season with one store.
func alone(c api.SoCandle, warm []api.Span) api.SoSeason {
	return season(c, 0, house("a", 1, warm))
}

// outside are numbers of which none is from least to most.
func outside(least, most int) []int {
	return []int{least - 1, most + 1, least - 1000000, most + 1000000, math.MinInt, math.MaxInt, math.MinInt32 - 1, math.MaxInt32}
}

// copyOf is a copy of a season that shares nothing with it.
func copyOf(s api.SoSeason) api.SoSeason {
	s.Stores = slices.Clone(s.Stores)
	for i := range s.Stores {
		s.Stores[i].Warm = slices.Clone(s.Stores[i].Warm)
	}
	return s
}

// length is how many days a season has.
func length(s api.SoSeason) int { return len(s.Stores[0].Warm) }

// along is how warm it can be on each day of a way.
func along(s api.SoSeason, way []int) []api.Span {
	var list []api.Span
	for day, at := range way {
		list = append(list, s.Stores[at].Warm[day])
	}
	return list
}

// truths yields all truths of some days, in their order.
func truths(days []api.Span) iter.Seq[[]int] {
	return func(yield func(warm []int) bool) {
		warm := make([]int, len(days))
		var fill func(day int) bool
		fill = func(day int) bool {
			if day == len(days) {
				return yield(slices.Clone(warm))
			}
			for w := days[day].Lo; w <= days[day].Hi; w++ {
				warm[day] = w
				if !fill(day + 1) {
					return false
				}
			}
			return true
		}
		fill(0)
	}
}

// ways yields all ways of so many days through so many stores, in their order.
func ways(stores, days int) iter.Seq[[]int] { return truths(always(0, stores-1, days)) }

// areHot reports whether all of some days are hot.
func areHot(c api.SoCandle, warm []int) bool {
	return !slices.ContainsFunc(warm, func(w int) bool { return w < c.Bend })
}

// bendsOn is the day on which candles bend, by the definition.
func bendsOn(c api.SoCandle, warm []int) int {
	for end := c.Days; end <= len(warm); end++ {
		if areHot(c, warm[end-c.Days:end]) {
			return end - 1
		}
	}
	return never
}

// hotDays is the greatest number of hot days one after the other.
func hotDays(c api.SoCandle, warm []int) int {
	most := 0
	for end := range len(warm) + 1 {
		for begin := range end {
			if areHot(c, warm[begin:end]) {
				most = max(most, end-begin)
			}
		}
	}
	return most
}

// jumpsOn are the days that are jumps.
func jumpsOn(c api.SoCandle, warm []int) []int {
	var list []int
	for day := 1; day < len(warm); day++ {
		if by := warm[day] - warm[day-1]; by > c.Jump || -by > c.Jump {
			list = append(list, day)
		}
	}
	return list
}

// bloomsOn is the day on which candles bloom, by the definition.
func bloomsOn(c api.SoCandle, warm []int) int {
	if list := jumpsOn(c, warm); len(list) >= c.Times {
		return list[c.Times-1]
	}
	return never
}

// fateOf is what happens to candles, by the definition.
func fateOf(c api.SoCandle, warm []int) api.SoFate {
	return api.SoFate{Bends: bendsOn(c, warm), Blooms: bloomsOn(c, warm)}
}

// well is what happens if nothing does.
func well() api.SoFate { return api.SoFate{Bends: never, Blooms: never} }

// known is what is known of some days from all their truths.
type known struct {
	hot, jumps int
	show       []int
	sound      bool
}

// knownOf tries all truths of some days.
func knownOf(c api.SoCandle, days []api.Span) known {
	k := known{sound: true}
	for warm := range truths(days) {
		k.hot = max(k.hot, hotDays(c, warm))
		if jumps := len(jumpsOn(c, warm)); k.show == nil || jumps > k.jumps {
			k.jumps, k.show = jumps, warm
		}
		k.sound = k.sound && fateOf(c, warm) == well()
	}
	return k
}

// mostHot is the greatest number of hot days one after the other, of which each is one if it can be.
func mostHot(c api.SoCandle, days []api.Span) int {
	var warm []int
	for _, day := range days {
		warm = append(warm, day.Hi)
	}
	return hotDays(c, warm)
}

// mostJumps is the greatest number of jumps. It keeps those warmths alone at which there are most of them: who is behind by one jump cannot come before them any more.
func mostJumps(c api.SoCandle, days []api.Span) int {
	jumps, lowest, highest := 0, days[0].Lo, days[0].Hi
	for _, day := range days[1:] {
		// From the highest one it can go down to these, from the lowest one up to those.
		down, up := min(day.Hi, highest-c.Jump-1), max(day.Lo, lowest+c.Jump+1)
		goesDown, goesUp := down >= day.Lo, up <= day.Hi
		switch {
		case goesDown && goesUp:
			jumps, lowest, highest = jumps+1, day.Lo, day.Hi
		case goesDown:
			jumps, lowest, highest = jumps+1, day.Lo, down
		case goesUp:
			jumps, lowest, highest = jumps+1, up, day.Hi
		default:
			lowest, highest = day.Lo, day.Hi
		}
	}
	return jumps
}

// isSound reports whether candles neither bend nor bloom on some days, whatever their warmth is.
func isSound(c api.SoCandle, days []api.Span) bool {
	return mostHot(c, days) < c.Days && mostJumps(c, days) < c.Times
}

// price is what a way costs, by the definition.
func price(s api.SoSeason, way []int) int {
	cents := 0
	for day, at := range way {
		cents += s.Stores[at].Rent
		if day > 0 && way[day-1] != at {
			cents += s.Move
		}
	}
	return cents
}

// bestBy is the best way, by all there are, and if there is one.
func bestBy(s api.SoSeason, sound func(c api.SoCandle, days []api.Span) bool) (best []int, cents int, exists bool) {
	for way := range ways(len(s.Stores), length(s)) {
		if own := price(s, way); (!exists || own < cents) && sound(s.Candle, along(s, way)) {
			best, cents, exists = way, own, true
		}
	}
	return best, cents, exists
}

// answer is what all functions but Check tell of a season, a way, and a truth of it.
type answer struct {
	fate               api.SoFate
	hot, jumps, cost   int
	show, best         []int
	cents              int
	fated, risky, down api.Errno
	keeps              [3][longest]int
}

// askAll asks for all of this.
func askAll(s api.SoSeason, way, warm []int) answer {
	var a answer
	a.fate, a.fated = store.Fate(s, way, warm)
	a.hot, a.jumps, a.risky = store.Risks(s, way)
	a.show, _ = store.Show(s, way)
	a.cost, _ = store.Cost(s, way)
	a.best, a.cents, a.down = store.Cheapest(s)
	for at := range s.Stores {
		for day := range length(s) {
			a.keeps[at][day], _ = store.Keeps(s, at, day)
		}
	}
	return a
}

// within is a random number of a range, often one of its ends.
func within(r *rand.Rand, s api.Span) int {
	switch r.Intn(4) {
	case 0:
		return s.Lo
	case 1:
		return s.Hi
	}
	return s.Lo + r.Intn(s.Hi-s.Lo+1)
}

// anyTruth is a random truth of some days.
func anyTruth(r *rand.Rand, days []api.Span) []int {
	var warm []int
	for _, day := range days {
		warm = append(warm, within(r, day))
	}
	return warm
}

// anyWay is a random way, mostly for all days, on which a stock often stays where it is.
func anyWay(r *rand.Rand, s api.SoSeason) []int {
	days := length(s)
	if r.Intn(3) == 0 {
		days = 1 + r.Intn(days)
	}
	way := []int{r.Intn(len(s.Stores))}
	for len(way) < days {
		next := way[len(way)-1]
		if r.Intn(2) == 0 {
			next = r.Intn(len(s.Stores))
		}
		way = append(way, next)
	}
	return way
}

// size is how much there can be in random seasons: degrees, of how many different ones on a day, days, and cents.
type size struct{ warm, wide, days, cents int }

// small is little enough to try all truths of all ways.
func small() size { return size{8, 4, 4, 5} }

// large is as much as there can be.
func large() size { return size{hottest, hottest, longest, dearest} }

// anySpan is a random range of degrees.
func anySpan(r *rand.Rand, z size) api.Span {
	lo := r.Intn(z.warm + 1)
	wide := r.Intn(1 + r.Intn(z.wide))
	return span(lo, min(z.warm, lo+wide))
}

// anyCandle is a random candle, to which anything can happen in so many days.
func anyCandle(r *rand.Rand, z size, days int) api.SoCandle {
	return candle(r.Intn(z.warm+1), 1+r.Intn(days), r.Intn(z.warm/2+1), 1+r.Intn(days))
}

// anyCents are random cents, mostly few, so that ways often cost the same.
func anyCents(r *rand.Rand, z size) int {
	if r.Intn(2) == 0 {
		return r.Intn(4)
	}
	return r.Intn(z.cents + 1)
}

// anySeason is a random season.
func anySeason(r *rand.Rand, z size) api.SoSeason {
	days := 1 + r.Intn(z.days)
	s := season(anyCandle(r, z, days), anyCents(r, z))
	for i := range 1 + r.Intn(3) {
		x := house(string(rune('a'+i)), anyCents(r, z), nil)
		for range days {
			x.Warm = append(x.Warm, anySpan(r, z))
		}
		s.Stores = append(s.Stores, x)
	}
	return s
}

// eachSeason calls a test with random seasons.
func eachSeason(seed int64, times int, z size, test func(r *rand.Rand, s api.SoSeason)) {
	r := rand.New(rand.NewSource(seed))
	for range times {
		test(r, anySeason(r, z))
	}
}

// eachWay calls a test with random seasons, small and large ones, and random ways through them.
func eachWay(seed int64, times int, test func(r *rand.Rand, s api.SoSeason, way []int)) {
	for _, z := range []size{small(), large()} {
		eachSeason(seed, times, z, func(r *rand.Rand, s api.SoSeason) { test(r, s, anyWay(r, s)) })
	}
}
