package colour_test

import (
	"math"
	"math/rand"
	"reflect"
	"slices"
	"testing"

	"stearin/api"
	"stearin/colour"
)

// callAll calls all functions.
func callAll(g given) []any {
	part, at, e := colour.Check(g.s)
	a := askAll(g)
	// Nil and an empty list are the same.
	a.best = append([]int{}, a.best...)
	for i, order := range a.orders {
		a.orders[i] = append([]int{}, order...)
	}
	return []any{part, at, e, a}
}

// eachGiven calls a test with random arguments.
func eachGiven(seed int64, times int, test func(r *rand.Rand, g given)) {
	eachJob(seed, times, mostBatches, func(r *rand.Rand, j job) {
		order := anyOrder(r, j)
		test(r, given{
			s: j.s, start: j.start, many: r.Intn(mostRinses + 1), starts: [2]int{r.Intn(len(j.s.Colours)), j.start},
			b: anyBatch(r, j.s), l: j.l, order: order, rinses: anyRinses(r, j, order),
		})
	})
}

// behind is a copy of a list, with one more element behind its end.
func behind[T any](list []T, more T) []T {
	return append(slices.Clone(list), more)[:len(list)]
}

// whole is a list with what is behind its end.
func whole[T any](list []T) []T { return list[:len(list)+1] }

// allLists are all lists of some arguments, with what is behind their ends.
func allLists(g given) []any {
	all := []any{whole(g.s.Colours), whole(g.l), whole(g.order), whole(g.rinses)}
	for _, c := range g.s.Colours {
		all = append(all, whole(c.Shows))
	}
	return all
}

// roomy is a copy of arguments in which each list has one more element behind its end.
func roomy(g given) given {
	g.s.Colours, g.l = behind(g.s.Colours, hue("behind", 77, 78, 79)), behind(g.l, batch(77, 78))
	g.order, g.rinses = behind(g.order, 77), behind(g.rinses, 77)
	for i, c := range g.s.Colours {
		g.s.Colours[i].Shows = behind(c.Shows, 77)
	}
	return g
}

// P11.14: arguments are as they were, also behind their length.
func TestArgumentsAreNotModified(t *testing.T) {
	eachGiven(1114, 1000, func(r *rand.Rand, g given) {
		own, copied := roomy(g), roomy(g)
		callAll(own)
		if !reflect.DeepEqual(allLists(own), allLists(copied)) {
			t.Fatalf("%v, not %v", own, g)
		}
	})
}

// P11.14: the same call returns the same again.
func TestNothingIsKept(t *testing.T) {
	eachGiven(11140, 1000, func(r *rand.Rand, g given) {
		first := callAll(g)
		callAll(good())
		callAll(given{start: -1, starts: [2]int{-1, -1}})
		if again := callAll(g); !reflect.DeepEqual(first, again) {
			t.Fatalf("%v; %v", first, again)
		}
	})
}

// fresh reports whether results of a call are not changed if another one is.
func fresh[T comparable](call func() []T, other T) bool {
	first, second := call(), call()
	want := slices.Clone(first)
	for i := range first[:cap(first)] {
		first[:cap(first)][i] = other
	}
	return len(want) > 0 && slices.Equal(second, want) && slices.Equal(call(), want)
}

// P11.14: results are new memory, and the two orders of Two share none.
func TestResultsAreNewMemory(t *testing.T) {
	g := changed(func(g *given) {
		// After white and after black there is nothing else: so both machines are needed.
		g.s = chain(10, []int{0, tooMany, tooMany}, []int{1, 0, 0}, []int{tooMany, tooMany, 0})
		g.starts, g.l = [2]int{black, white}, batches(1000, white, black, white, black)
	})
	g = roomy(g)
	copied := roomy(g)
	if !fresh(func() []int { order, _, _ := colour.Best(g.s, red, batches(1000, white, red, white)); return order }, 77) {
		t.Error("Best")
	}
	for i := range 2 {
		if !fresh(func() []int { orders, _, _ := colour.Two(g.s, g.starts, g.l); return orders[i] }, 77) {
			t.Error("Two", i)
		}
		orders, _, _ := colour.Two(g.s, g.starts, g.l)
		other := slices.Clone(orders[1-i])
		own := orders[i][:cap(orders[i])]
		for k := range own {
			own[k] = 77
		}
		if !slices.Equal(orders[1-i], other) {
			t.Error("Two", i, orders)
		}
	}
	if !reflect.DeepEqual(allLists(g), allLists(copied)) {
		t.Errorf("%v", g)
	}
}

// wildly makes random arguments, also such as are not valid.
type wildly struct {
	*rand.Rand
	numbers []int
}

// number is a number from 0 to most, and sometimes any other one.
func (w wildly) number(most int) int {
	if w.Intn(100) > 0 {
		return w.Intn(most + 1)
	}
	return w.numbers[w.Intn(len(w.numbers))]
}

// about is a number, and sometimes another one near it.
func (w wildly) about(many int) int {
	if w.Intn(40) > 0 {
		return many
	}
	return max(0, many+w.Intn(3)-1)
}

// name is a name of its own, and sometimes another one, or none.
func (w wildly) name(at int) string {
	if w.Intn(40) > 0 {
		return string(rune('a' + at))
	}
	return []string{"", "a", "B", "a-"}[w.Intn(4)]
}

// span is a range of numbers from 0 to most, and sometimes any other one.
func (w wildly) span(most int) api.Span {
	lo := w.number(most / 2)
	return span(lo, lo+w.number(most/2))
}

// batch is a batch of one of so many colours, and sometimes any other one.
func (w wildly) batch(colours int) api.ClBatch { return batch(w.number(colours-1), 1+w.number(3000)) }

// given are any arguments.
func (w wildly) given() given {
	colours, many := 1+w.Intn(mostColours), w.Intn(mostBatches+1)
	keep := w.span(1000)
	g := given{s: shop(keep.Lo, keep.Hi, w.number(100)), start: w.number(colours - 1), many: w.number(3), b: w.batch(colours)}
	for at := range w.about(colours) {
		stay := w.span(40)
		c := hue(w.name(at), stay.Lo, stay.Hi)
		for range w.about(colours) {
			c.Shows = append(c.Shows, w.number(30))
		}
		g.s.Colours = append(g.s.Colours, c)
	}
	g.starts = [2]int{g.start, w.number(colours - 1)}
	for range w.about(many) {
		g.l = append(g.l, w.batch(colours))
	}
	g.order = w.Perm(w.about(many))
	for at := range g.order {
		if w.Intn(40) == 0 {
			g.order[at] = w.number(many)
		}
	}
	for range w.about(many) {
		g.rinses = append(g.rinses, w.number(3))
	}
	return g
}

// P11.14, P1: any arguments are accepted. Each call returns, and with an error nothing else.
func TestAnyArgumentsAreAccepted(t *testing.T) {
	w := wildly{rand.New(rand.NewSource(11141)), []int{math.MinInt, math.MinInt + 1, math.MinInt32, -1000000, -2, -1, 0, 4, 6, 7, mostStay, mostStay + 1, mostGrams - 1, mostGrams, mostGrams + 1, math.MaxInt32, math.MaxInt - 1, math.MaxInt}}
	var errors [7]map[api.Errno]int
	for i := range errors {
		errors[i] = map[api.Errno]int{}
	}
	for range 40000 {
		for i, e := range ask(t, w.given()).list() {
			errors[i][e]++
		}
	}
	for i, many := range errors {
		for _, e := range []api.Errno{api.OK, api.ErrArg, api.ErrLong, api.ErrNone, api.ErrTwice, api.ErrForm, api.ErrRange} {
			if many[e] < 100 {
				t.Errorf("the function %d: %v", i, many)
			}
		}
		// Left and Shows tell of what is not possible, too.
		if down := many[api.ErrDown]; down < 100 && i != 0 && i != 3 || down > 0 && (i == 0 || i == 3) {
			t.Errorf("the function %d: %v", i, many)
		}
	}
	ask(t, given{})
	for _, n := range []int{math.MinInt, math.MaxInt} {
		all := given{s: example(), start: n, many: n, starts: [2]int{n, n}, b: batch(n, n), l: []api.ClBatch{batch(n, n)}, order: []int{n}, rinses: []int{n}}
		ask(t, all)
		ask(t, changed(func(g *given) { g.l, g.order, g.rinses = batches(n, red, red), []int{n, n}, []int{n, n} }))
		ask(t, changed(func(g *given) { g.many, g.order, g.rinses = n, []int{n, 0, n}, []int{0, n, 0} }))
		for _, s := range []api.ClShop{shop(n, n, n, hue("a", n, n, n)), shop(0, n, 0, hue("a", 0, 0, 0)), shop(0, 0, 0, hue("a", 0, n, 0)), shop(0, 0, 0, hue("a", 0, 0, n))} {
			all.s = s
			ask(t, all)
			ask(t, given{s: s, b: batch(0, 1), l: batches(1, 0), order: []int{0}, rinses: []int{0}})
		}
	}
}

// R3: nil and empty are the same.
func TestNilAndEmptyAreTheSame(t *testing.T) {
	noColours := with(func(s *api.ClShop) { s.Colours = nil })
	emptyColours := with(func(s *api.ClShop) { s.Colours = []api.ClColour{} })
	noShows := with(func(s *api.ClShop) { s.Colours[0].Shows = nil })
	emptyShows := with(func(s *api.ClShop) { s.Colours[0].Shows = []int{} })
	none := given{b: batch(red, 5), starts: [2]int{white, red}}
	empty := none
	empty.l, empty.order, empty.rinses = []api.ClBatch{}, []int{}, []int{}
	for i, c := range [][2]api.ClShop{{noColours, emptyColours}, {noShows, emptyShows}, {example(), example()}} {
		none.s, empty.s = c[0], c[1]
		if !reflect.DeepEqual(callAll(none), callAll(empty)) {
			t.Errorf("%d: %v; %v", i, callAll(none), callAll(empty))
		}
	}
	if a := ask(t, empty); a != (answers{}) {
		t.Errorf("%v", a)
	}
	if a := ask(t, changed(func(g *given) { g.order, g.rinses = []int{}, []int{} })); a != ofOrder(api.ErrLong) {
		t.Errorf("%v", a)
	}
	if a := ask(t, changed(func(g *given) { g.rinses = []int{} })); a != (answers{shows: api.ErrLong}) {
		t.Errorf("%v", a)
	}
}
