package store_test

import (
	"math"
	"math/rand"
	"reflect"
	"slices"
	"testing"

	"stearin/api"
	"stearin/store"
)

// callAll calls all functions.
func callAll(g given) []any {
	part, at, e := store.Check(g.s)
	fate, f := store.Fate(g.s, g.way, g.warm)
	hot, jumps, h := store.Risks(g.s, g.way)
	show, i := store.Show(g.s, g.way)
	cost, j := store.Cost(g.s, g.way)
	keeps, k := store.Keeps(g.s, g.store, g.day)
	best, cents, l := store.Cheapest(g.s)
	// Nil and an empty list are the same.
	show, best = append([]int{}, show...), append([]int{}, best...)
	return []any{part, at, e, fate, f, hot, jumps, h, show, i, cost, j, keeps, k, best, cents, l}
}

// eachGiven calls a test with random arguments.
func eachGiven(seed int64, times int, test func(r *rand.Rand, g given)) {
	eachWay(seed, times, func(r *rand.Rand, s api.SoSeason, way []int) {
		test(r, given{s: s, way: way, warm: anyTruth(r, along(s, way)), store: r.Intn(len(s.Stores)), day: r.Intn(length(s))})
	})
}

// behind is a copy of a list, with one more element behind its end.
func behind[T any](list []T, more T) []T {
	return append(slices.Clone(list), more)[:len(list)]
}

// whole is a list with what is behind its end.
func whole[T any](list []T) []T { return list[:len(list)+1] }

// lists are all lists of some arguments, with what is behind their ends.
func lists(g given) []any {
	all := []any{whole(g.s.Stores), whole(g.way), whole(g.warm)}
	for _, x := range g.s.Stores {
		all = append(all, whole(x.Warm))
	}
	return all
}

// roomy is a copy of arguments in which each list has one more element behind its end.
func roomy(g given) given {
	g.s.Stores, g.way, g.warm = behind(g.s.Stores, house("behind", 77, spans(77, 78))), behind(g.way, 77), behind(g.warm, 77)
	for i, x := range g.s.Stores {
		g.s.Stores[i].Warm = behind(x.Warm, span(77, 78))
	}
	return g
}

// P10.14: arguments are as they were, also behind their length.
func TestArgumentsAreNotModified(t *testing.T) {
	eachGiven(1014, 500, func(r *rand.Rand, g given) {
		own, copied := roomy(g), roomy(g)
		callAll(own)
		if !reflect.DeepEqual(lists(own), lists(copied)) {
			t.Fatalf("%v, not %v", own, g)
		}
	})
}

// P10.14: the same call returns the same again.
func TestNothingIsKept(t *testing.T) {
	eachGiven(10140, 500, func(r *rand.Rand, g given) {
		first := callAll(g)
		callAll(good())
		callAll(given{store: -1, day: -1})
		if again := callAll(g); !reflect.DeepEqual(first, again) {
			t.Fatalf("%v; %v", first, again)
		}
	})
}

// fresh reports whether results of a call are not changed if another one is.
func fresh[T comparable](call func() []T, other T) bool {
	first, second := call(), call()
	want := slices.Clone(first)
	for i := range first[:cap(first)] {
		first[:cap(first)][i] = other
	}
	return len(want) > 0 && slices.Equal(second, want) && slices.Equal(call(), want)
}

// P10.14: results are new memory.
func TestResultsAreNewMemory(t *testing.T) {
	g := roomy(good())
	g.s.Stores[0].Warm = behind(exact(0, 1, 2), span(77, 78))
	g.way = behind([]int{0, 0, 0}, 77)
	copied := roomy(g)
	if !fresh(func() []int { l, _ := store.Show(g.s, g.way); return l }, 77) {
		t.Error("Show")
	}
	if !fresh(func() []int { l, _, _ := store.Cheapest(g.s); return l }, 77) {
		t.Error("Cheapest")
	}
	if !reflect.DeepEqual(lists(g), lists(copied)) {
		t.Errorf("%v", g)
	}
}

// wildly makes random arguments, also such as are not valid.
type wildly struct {
	*rand.Rand
	numbers []int
}

func (w wildly) number(most int) int {
	if w.Intn(100) > 0 {
		return w.Intn(most + 1)
	}
	return w.numbers[w.Intn(len(w.numbers))]
}

// about is a number, and sometimes another one near it.
func (w wildly) about(many int) int {
	if w.Intn(20) > 0 {
		return many
	}
	return max(0, many+w.Intn(3)-1)
}

// name is a name of its own, and sometimes another one, or none.
func (w wildly) name(at int) string {
	if w.Intn(40) > 0 {
		return string(rune('a' + at))
	}
	return []string{"", "a", "B", "a-"}[w.Intn(4)]
}

// warmth is any warmth for a day of a way, mostly one that its store can have.
func (w wildly) warmth(s api.SoSeason, way []int, day int) int {
	if w.Intn(40) == 0 || day >= len(way) {
		return w.number(60)
	}
	if at := way[day]; 0 <= at && at < len(s.Stores) && day < len(s.Stores[at].Warm) {
		return s.Stores[at].Warm[day].Lo
	}
	return w.number(60)
}

// given are any arguments.
func (w wildly) given() given {
	g := given{store: w.number(3), day: w.number(8)}
	g.s = season(candle(w.number(60), 1+w.number(7), w.number(60), 1+w.number(7)), w.number(100))
	stores, days := 1+w.Intn(3), 1+w.Intn(8)
	for at := range w.about(stores) {
		x := house(w.name(at), w.number(100), nil)
		for range w.about(days) {
			lo := w.number(40)
			x.Warm = append(x.Warm, span(lo, lo+w.number(20)))
		}
		g.s.Stores = append(g.s.Stores, x)
	}
	for range w.about(1 + w.Intn(days)) {
		g.way = append(g.way, w.number(stores-1))
	}
	for day := range w.about(len(g.way)) {
		g.warm = append(g.warm, w.warmth(g.s, g.way, day))
	}
	return g
}

// P10.14, P1: any arguments are accepted. Each call returns, and with an error nothing else.
func TestAnyArgumentsAreAccepted(t *testing.T) {
	w := wildly{rand.New(rand.NewSource(10141)), []int{math.MinInt, math.MinInt + 1, math.MinInt32, -1000000, -2, -1, 0, 8, 9, 60, 61, dearest - 1, dearest, dearest + 1, math.MaxInt32, math.MaxInt - 1, math.MaxInt}}
	fates, risks, keeps, best := map[api.Errno]int{}, map[api.Errno]int{}, map[api.Errno]int{}, map[api.Errno]int{}
	for range 60000 {
		g := w.given()
		a := ask(t, g)
		fates[a.fate]++
		risks[a.risks]++
		keeps[a.keeps]++
		best[a.cheapest]++
	}
	for _, e := range []api.Errno{api.OK, api.ErrLong, api.ErrTwice, api.ErrForm, api.ErrRange} {
		if fates[e] < 100 || risks[e] < 100 || keeps[e] < 100 || best[e] < 100 {
			t.Errorf("%d: %v, %v, %v, %v", e, fates, risks, keeps, best)
		}
	}
	for _, e := range []api.Errno{api.ErrArg, api.ErrNone} {
		if fates[e] < 10 || risks[e] < 10 || keeps[e] < 10 {
			t.Errorf("%d: %v, %v, %v", e, fates, risks, keeps)
		}
	}
	if best[api.ErrDown] < 100 {
		t.Errorf("%v", best)
	}
	ask(t, given{})
	for _, n := range []int{math.MinInt, math.MaxInt} {
		ask(t, given{s: works(), way: []int{n, n, n}, warm: []int{n, n, n}, store: n, day: n})
		ask(t, given{s: works(), way: []int{0, n, 1}, warm: []int{30, 31, 10}, store: 0, day: n})
		ask(t, given{s: works(), way: []int{0, 0, 0}, warm: []int{30, n, 10}, store: n, day: 0})
		ask(t, given{s: season(candle(n, n, n, n), n, house("a", n, spans(n, n))), way: []int{0}, warm: []int{n}})
		ask(t, given{s: season(candle(1, 1, 1, 1), 1, house("a", n, spans(n, n))), way: []int{0}, warm: []int{n}})
		ask(t, given{s: season(candle(1, 1, 1, 1), 1, house("a", 1, spans(n, 0, 0, n))), way: []int{0}, warm: []int{n}})
	}
}

// R3: nil and empty are the same.
func TestNilAndEmptyAreTheSame(t *testing.T) {
	noStores := with(func(s *api.SoSeason) { s.Stores = nil })
	emptyStores := with(func(s *api.SoSeason) { s.Stores = []api.SoStore{} })
	noDays := with(func(s *api.SoSeason) { s.Stores[0].Warm = nil })
	emptyDays := with(func(s *api.SoSeason) { s.Stores[0].Warm = []api.Span{} })
	for i, c := range [][2]given{
		{{s: noStores}, {s: emptyStores, way: []int{}, warm: []int{}}},
		{{s: noDays}, {s: emptyDays, way: []int{}, warm: []int{}}},
		{{s: works()}, {s: works(), way: []int{}, warm: []int{}}},
		{{s: works(), way: []int{0}}, {s: works(), way: []int{0}, warm: []int{}}},
	} {
		if !reflect.DeepEqual(callAll(c[0]), callAll(c[1])) {
			t.Errorf("%d: %v; %v", i, callAll(c[0]), callAll(c[1]))
		}
	}
	if a := ask(t, given{s: works(), way: []int{}, warm: []int{}}); a != ofWay(api.ErrLong) {
		t.Errorf("%v", a)
	}
}
