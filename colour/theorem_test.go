package colour_test

import (
	"math/big"
	"math/rand"
	"slices"
	"testing"

	"stearin/api"
	"stearin/colour"
)

// seen counts what random work had, so that a test can tell whether it had all of it.
type seen map[string]int

// add counts one more, if something is so.
func (m seen) add(name string, so bool) {
	if so {
		m[name]++
	}
}

// atLeast reports what was seen less often.
func (m seen) atLeast(t *testing.T, times int, names ...string) {
	t.Helper()
	for _, name := range names {
		if m[name] < times {
			t.Errorf("%s: %v", name, m)
		}
	}
}

// countName names a number of rinses, or that there is none.
func countName(n int) string {
	return []string{"cannot follow", "no rinse", "one rinse", "two rinses", "three rinses"}[n+1]
}

// countNames are all of these names.
func countNames() []string {
	return []string{"cannot follow", "no rinse", "one rinse", "two rinses", "three rinses"}
}

// P11.2, P11.11: Left is the least and the greatest of all truths, rounded.
func TestLeftOfAllTruths(t *testing.T) {
	many := seen{}
	eachChange(1102, 6000, func(r *rand.Rand, s api.ClShop, before int, _ api.ClBatch) {
		for rinses := range mostRinses + 1 {
			all := corners(s, before, rinses)
			least := slices.MinFunc(all, (*big.Rat).Cmp)
			most := slices.MaxFunc(all, (*big.Rat).Cmp)
			got, e := colour.Left(s, before, rinses)
			if got != span(down(milli(least)), up(milli(most))) || e != api.OK {
				t.Fatalf("%v, %d, %d: Left = %v, %d, not %v to %v", s, before, rinses, got, e, least, most)
			}
			many.add("rounded down", !milli(least).IsInt())
			many.add("rounded up", !milli(most).IsInt())
			many.add("exact", least.Sign() > 0 && milli(least).IsInt() && milli(most).IsInt())
		}
	})
	many.atLeast(t, 1000, "rounded down", "rounded up", "exact")
}

// P11.11: in random truths what is left is in the range, and with a rinse more it is no more.
func TestWhatStays(t *testing.T) {
	many := seen{}
	eachChange(1111, 6000, func(r *rand.Rand, s api.ClShop, before int, _ api.ClBatch) {
		grams := between(r, s.Colours[before].Stay)
		var last api.Span
		for rinses := range mostRinses + 1 {
			got, e := colour.Left(s, before, rinses)
			if down(milli(grams)) < got.Lo || up(milli(grams)) > got.Hi || e != api.OK {
				t.Fatalf("%v, %d, %d: Left = %v, %d, not %v", s, before, rinses, got, e, grams)
			}
			if rinses > 0 && (got.Lo > last.Lo || got.Hi > last.Hi) {
				t.Fatalf("%v, %d: Left = %v after %d rinses, but %v after one less", s, before, got, rinses, last)
			}
			many.add("less", rinses > 0 && got.Hi < last.Hi)
			many.add("as much", rinses > 0 && got.Hi == last.Hi && got.Hi > 0)
			many.add("inside", down(milli(grams)) > got.Lo && up(milli(grams)) < got.Hi)
			last = got
			grams = product(grams, between(r, s.Keep), parts(1))
		}
	})
	many.atLeast(t, 200, "less", "as much", "inside")
}

// P11.2, P11.6: with as many rinses as Rinses returns in no truth anything shows; with one less there is one in which it does.
func TestRinsesOfAllTruths(t *testing.T) {
	many := seen{}
	eachChange(1106, 20000, func(r *rand.Rand, s api.ClShop, before int, b api.ClBatch) {
		got, e := colour.Rinses(s, before, b)
		most := got
		if e != api.OK {
			got, most = tooMany, mostRinses+1
		}
		if want := needs(s, before, b); got != want || e != api.OK && e != api.ErrDown {
			t.Fatalf("%v, %d, %v: Rinses = %d, %d, not %d", s, before, b, got, e, want)
		}
		if most > 0 && !canShow(s, before, b, most-1) {
			t.Fatalf("%v, %d, %v: Rinses = %d, %d, but one less is enough", s, before, b, got, e)
		}
		for rinses := most; rinses <= mostRinses; rinses++ {
			if grams := anyLeft(r, s, before, rinses); showsIn(s, before, b, grams) {
				t.Fatalf("%v, %d, %v: Rinses = %d, %d, but with %d there is %v", s, before, b, got, e, rinses, grams)
			}
		}
		limit := product(big.NewRat(int64(b.Grams), 1), parts(s.Colours[before].Shows[b.Colour]))
		all := corners(s, before, max(0, got))
		many.add("just enough", got > 0 && slices.MaxFunc(all, (*big.Rat).Cmp).Cmp(limit) == 0)
		many.add("not in each truth", most > 0 && !showsIn(s, before, b, anyLeft(r, s, before, most-1)))
		many.add("the same colour", before == b.Colour)
		many.add(countName(got), before != b.Colour)
	})
	many.atLeast(t, 300, append(countNames(), "just enough", "not in each truth", "the same colour")...)
}

// anyOrder is a random order of batches.
func anyOrder(r *rand.Rand, j job) []int { return r.Perm(len(j.l)) }

// anyRinses are random numbers of rinses, often just those that an order needs, and one less.
func anyRinses(r *rand.Rand, j job, order []int) []int {
	list, _ := knownOf(j.s, j.l).rinses(j.start, order)
	for place, n := range list {
		list[place] = max(n, 0)
		if r.Intn(5) == 0 {
			list[place] = r.Intn(mostRinses + 1)
		} else if r.Intn(8) == 0 {
			list[place] = max(n-1, 0)
		}
	}
	return list
}

// P11.3, P11.8: Shows names the first place at which there is a truth in which the colour before shows; before that there is none.
func TestShowsOfAllTruths(t *testing.T) {
	many := seen{}
	eachJob(1108, 10000, mostBatches, func(r *rand.Rand, j job) {
		order := anyOrder(r, j)
		rinses := anyRinses(r, j, order)
		got, e := colour.Shows(j.s, j.start, j.l, order, rinses)
		want, before := nowhere, j.start
		for place, at := range order {
			b := j.l[at]
			if want == nowhere && canShow(j.s, before, b, rinses[place]) {
				want = place
			}
			// No truth of a change at which nothing can show shows anything.
			if want == nowhere && showsIn(j.s, before, b, anyLeft(r, j.s, before, rinses[place])) {
				t.Fatalf("%v, %v, %v: there is a truth at %d", j, order, rinses, place)
			}
			before = b.Colour
		}
		if got != want || e != api.OK {
			t.Fatalf("%v, %v, %v: Shows = %d, %d, not %d", j, order, rinses, got, e, want)
		}
		many.add("nowhere", got == nowhere && len(order) > 2)
		many.add("at first", got == 0)
		many.add("later", got > 0)
		many.add("in the end", got > 0 && got == len(order)-1)
	})
	many.atLeast(t, 500, "nowhere", "at first", "later", "in the end")
}

// P11.3, P11.8: what an order loses, by the definition; with the rinses that it needs nothing shows.
func TestLostOfOrders(t *testing.T) {
	many := seen{}
	eachJob(1103, 10000, mostBatches, func(r *rand.Rand, j job) {
		order := anyOrder(r, j)
		k := knownOf(j.s, j.l)
		want, possible := k.loses(j.start, order)
		got, e := colour.Lost(j.s, j.start, j.l, order)
		if got != want || possible != (e == api.OK) || !possible && e != api.ErrDown {
			t.Fatalf("%v, %v: Lost = %d, %d, not %d, %t", j, order, got, e, want, possible)
		}
		many.add("possible", possible && got > 0)
		many.add("not possible", !possible)
		many.add("nothing", possible && got == 0 && len(order) > 1)
		if !possible {
			return
		}
		var rinses []int
		before := j.start
		for _, at := range order {
			n, e := colour.Rinses(j.s, before, j.l[at])
			if e != api.OK {
				t.Fatalf("%v, %v: Rinses after %d = %d, %d", j, order, before, n, e)
			}
			rinses = append(rinses, n)
			before = j.l[at].Colour
		}
		if place, e := colour.Shows(j.s, j.start, j.l, order, rinses); place != nowhere || e != api.OK {
			t.Fatalf("%v, %v, %v: Shows = %d, %d", j, order, rinses, place, e)
		}
		// With one less anywhere something shows there.
		for place, n := range rinses {
			if n == 0 {
				continue
			}
			fewer := slices.Clone(rinses)
			fewer[place]--
			if got, e := colour.Shows(j.s, j.start, j.l, order, fewer); got != place || e != api.OK {
				t.Fatalf("%v, %v, %v: Shows = %d, %d", j, order, fewer, got, e)
			}
			many.add("fewer", true)
		}
	})
	many.atLeast(t, 500, "possible", "not possible", "nothing", "fewer")
}

// P11.4, P11.7: Best is the first one of all orders that lose the least.
func TestAllOrders(t *testing.T) {
	many := seen{}
	check := func(r *rand.Rand, j job) {
		k := knownOf(j.s, j.l)
		best, lost, exists := k.best(j.start, first(len(j.l)))
		order, got, e := colour.Best(j.s, j.start, j.l)
		if !slices.Equal(order, best) || got != lost || exists != (e == api.OK) || !exists && e != api.ErrDown {
			t.Fatalf("%v: Best = %v, %d, %d, not %v, %d, %t", j, order, got, e, best, lost, exists)
		}
		many.add("none", !exists)
		many.add("lost", lost > 0)
		many.add("nothing lost", exists && lost == 0 && len(best) > 2)
		many.add("not as they are", !slices.Equal(best, first(len(best))))
		many.add("seven", exists && len(best) == mostBatches)
		if !exists {
			return
		}
		if same, e := colour.Lost(j.s, j.start, j.l, order); same != got || e != api.OK {
			t.Fatalf("%v: Best = %v, %d, but Lost = %d, %d", j, order, got, same, e)
		}
	}
	eachJob(1104, 8000, 5, check)
	eachJob(1107, 1000, mostBatches, check)
	many.atLeast(t, 50, "none", "lost", "nothing lost", "not as they are", "seven")
}

// P11.5, P11.9: a rush order is at the first place of those at which all of it loses the least.
func TestAllPlaces(t *testing.T) {
	many := seen{}
	eachJob(1109, 10000, mostBatches, func(r *rand.Rand, j job) {
		b := anyBatch(r, j.s)
		if j.s.Colours[0].Stay == span(1000, 1000) {
			b.Grams = 1000
		}
		order := anyOrder(r, j)
		all := knownOf(j.s, append(slices.Clone(j.l), b))
		at, lost, exists := 0, 0, false
		for place := range len(order) + 1 {
			if grams, possible := all.loses(j.start, put(order, place, len(j.l))); possible && (!exists || grams < lost) {
				at, lost, exists = place, grams, true
			}
		}
		got, grams, e := colour.Rush(j.s, j.start, j.l, order, b)
		if got != at || grams != lost || exists != (e == api.OK) || !exists && e != api.ErrDown {
			t.Fatalf("%v, %v, %v: Rush = %d, %d, %d, not %d, %d, %t", j, order, b, got, grams, e, at, lost, exists)
		}
		_, possible := all.loses(j.start, order)
		many.add("none", !exists)
		many.add("at first", exists && at == 0 && len(order) > 1)
		many.add("in the middle", at > 0 && at < len(order))
		many.add("in the end", at > 0 && at == len(order))
		many.add("eight", exists && len(order) == mostBatches)
		many.add("it is possible now", exists && !possible)
		many.add("it is not possible any more", !exists && possible)
	})
	many.atLeast(t, 100, "none", "at first", "in the middle", "in the end", "eight", "it is possible now", "it is not possible any more")
}

// P11.4, P11.10: Two is the sharing with the least set of all that lose the least.
func TestAllSharings(t *testing.T) {
	many := seen{}
	check := func(r *rand.Rand, j job) {
		starts := [2]int{j.start, r.Intn(len(j.s.Colours))}
		best, lost, exists := knownOf(j.s, j.l).two(starts)
		orders, got, e := colour.Two(j.s, starts, j.l)
		if !slices.Equal(orders[0], best[0]) || !slices.Equal(orders[1], best[1]) || got != lost || exists != (e == api.OK) || !exists && e != api.ErrDown {
			t.Fatalf("%v, %v: Two = %v, %d, %d, not %v, %d, %t", j, starts, orders, got, e, best, lost, exists)
		}
		many.add("none", !exists)
		many.add("on both", len(best[0]) > 0 && len(best[1]) > 0)
		many.add("on the first one", len(best[0]) > 1 && len(best[1]) == 0)
		many.add("on the second one", len(best[0]) == 0 && len(best[1]) > 1)
		many.add("lost", lost > 0)
		many.add("seven", exists && len(j.l) == mostBatches)
		if !exists {
			return
		}
		// Each order is what Lost says, and each batch is in one of them.
		one, e := colour.Lost(j.s, starts[0], some(j.l, orders[0]), first(len(orders[0])))
		other, f := colour.Lost(j.s, starts[1], some(j.l, orders[1]), first(len(orders[1])))
		if one+other != got || e != api.OK || f != api.OK {
			t.Fatalf("%v, %v: Two = %v, %d, but Lost = %d, %d; %d, %d", j, starts, orders, got, one, e, other, f)
		}
		if all := slices.Sorted(slices.Values(slices.Concat(orders[0], orders[1]))); !slices.Equal(all, first(len(j.l))) {
			t.Fatalf("%v, %v: Two = %v", j, starts, orders)
		}
	}
	eachJob(1110, 3000, 5, check)
	eachJob(11100, 200, mostBatches, check)
	many.atLeast(t, 10, "none", "on both", "on the first one", "on the second one", "lost", "seven")
}

// some are batches at these indices.
func some(l []api.ClBatch, of []int) []api.ClBatch {
	var list []api.ClBatch
	for _, at := range of {
		list = append(list, l[at])
	}
	return list
}

// P11.10: with the same start two machines lose no more than one of them; with starts that are changed they lose as much.
func TestTwoMachinesAreNoWorse(t *testing.T) {
	many := seen{}
	eachJob(11101, 6000, mostBatches, func(r *rand.Rand, j job) {
		_, lost, e := colour.Best(j.s, j.start, j.l)
		_, both, f := colour.Two(j.s, [2]int{j.start, j.start}, j.l)
		if e == api.OK && (f != api.OK || both > lost) {
			t.Fatalf("%v: Best = %d, %d; Two = %d, %d", j, lost, e, both, f)
		}
		many.add("less", e == api.OK && both < lost)
		many.add("as much", e == api.OK && both == lost && lost > 0)
		many.add("now it is possible", e != api.OK && f == api.OK)
		other := r.Intn(len(j.s.Colours))
		_, turned, g := colour.Two(j.s, [2]int{other, j.start}, j.l)
		_, own, h := colour.Two(j.s, [2]int{j.start, other}, j.l)
		if turned != own || g != h || e == api.OK && (h != api.OK || own > lost) {
			t.Fatalf("%v, %d: Best = %d, %d; Two = %d, %d, and %d, %d", j, other, lost, e, own, h, turned, g)
		}
	})
	many.atLeast(t, 100, "less", "as much")
	many.atLeast(t, 10, "now it is possible")
}

// less is a random range that is not above another one at any end.
func less(r *rand.Rand, s api.Span) api.Span {
	hi := s.Hi - r.Intn(s.Hi+1)*r.Intn(2)
	return span(r.Intn(min(s.Lo, hi)+1), hi)
}

// P11.12: with a smaller Stay and Keep, greater Shows, and a heavier batch no more rinses are needed.
func TestMore(t *testing.T) {
	many := seen{}
	eachChange(1112, 20000, func(r *rand.Rand, s api.ClShop, before int, b api.ClBatch) {
		milder := copyOf(s)
		own := &milder.Colours[before]
		switch r.Intn(5) {
		case 0:
			own.Stay = less(r, own.Stay)
		case 1:
			milder.Keep = less(r, milder.Keep)
		case 2:
			own.Shows[b.Colour] += r.Intn(1001 - own.Shows[b.Colour])
		case 3:
			own.Stay, milder.Keep = less(r, own.Stay), less(r, milder.Keep)
		}
		heavier := b
		if r.Intn(2) == 0 {
			heavier.Grams += r.Intn(mostGrams + 1 - b.Grams)
		}
		got, e := colour.Rinses(s, before, b)
		fewer, f := colour.Rinses(milder, before, heavier)
		if e == api.OK && (f != api.OK || fewer > got) {
			t.Fatalf("%v, %d, %v: Rinses = %d, %d, but with %v, %v: %d, %d", s, before, b, got, e, milder, heavier, fewer, f)
		}
		many.add("fewer", e == api.OK && fewer < got)
		many.add("as many", e == api.OK && fewer == got && got > 0)
		many.add("now it can follow", e != api.OK && f == api.OK)
		same, e := colour.Rinses(s, before, batch(before, b.Grams))
		if same != 0 || e != api.OK {
			t.Fatalf("%v, %d: Rinses of the same colour = %d, %d", s, before, same, e)
		}
	})
	many.atLeast(t, 300, "fewer", "as many", "now it can follow")
}

// P11.12, P11.7: so all batches together lose no more either.
func TestMilderShopsLoseNoMore(t *testing.T) {
	many := seen{}
	eachJob(11120, 6000, mostBatches, func(r *rand.Rand, j job) {
		milder := copyOf(j.s)
		milder.Keep = less(r, milder.Keep)
		for i, c := range milder.Colours {
			milder.Colours[i].Stay = less(r, c.Stay)
			at := r.Intn(len(c.Shows))
			c.Shows[at] += r.Intn(1001 - c.Shows[at])
		}
		_, lost, e := colour.Best(j.s, j.start, j.l)
		_, fewer, f := colour.Best(milder, j.start, j.l)
		if e == api.OK && (f != api.OK || fewer > lost) {
			t.Fatalf("%v: Best = %d, %d, but with %v: %d, %d", j, lost, e, milder, fewer, f)
		}
		many.add("less", e == api.OK && fewer < lost)
		many.add("as much", e == api.OK && fewer == lost && lost > 0)
	})
	many.atLeast(t, 100, "less", "as much")
}

// P11.13: the best order of the same batches loses as much, in whichever order they are given.
func TestBatchesInAnyOrder(t *testing.T) {
	many := seen{}
	eachJob(1113, 8000, mostBatches, func(r *rand.Rand, j job) {
		turned := some(j.l, r.Perm(len(j.l)))
		_, lost, e := colour.Best(j.s, j.start, j.l)
		_, same, f := colour.Best(j.s, j.start, turned)
		if lost != same || e != f {
			t.Fatalf("%v: Best = %d, %d, but of %v %d, %d", j, lost, e, turned, same, f)
		}
		starts := [2]int{j.start, r.Intn(len(j.s.Colours))}
		_, both, g := colour.Two(j.s, starts, j.l)
		_, others, h := colour.Two(j.s, starts, turned)
		if both != others || g != h {
			t.Fatalf("%v, %v: Two = %d, %d, but of %v %d, %d", j, starts, both, g, turned, others, h)
		}
		many.add("lost", lost > 0 && !slices.Equal(turned, j.l))
		many.add("not possible", e == api.ErrDown)
	})
	many.atLeast(t, 500, "lost", "not possible")
}

// P11.4: the best order is the same one if the colours of the shop are in another order.
func TestColoursInAnyOrder(t *testing.T) {
	many := seen{}
	eachJob(11130, 6000, mostBatches, func(r *rand.Rand, j job) {
		to := r.Perm(len(j.s.Colours))
		turned := copyOf(j.s)
		for i, c := range j.s.Colours {
			moved := c
			moved.Shows = make([]int, len(to))
			for k, n := range c.Shows {
				moved.Shows[to[k]] = n
			}
			turned.Colours[to[i]] = moved
		}
		l := slices.Clone(j.l)
		for i := range l {
			l[i].Colour = to[l[i].Colour]
		}
		order, lost, e := colour.Best(j.s, j.start, j.l)
		same, grams, f := colour.Best(turned, to[j.start], l)
		if !slices.Equal(order, same) || lost != grams || e != f {
			t.Fatalf("%v: Best = %v, %d, %d, but of %v, %v: %v, %d, %d", j, order, lost, e, turned, l, same, grams, f)
		}
		many.add("lost", lost > 0 && !slices.IsSorted(to))
	})
	many.atLeast(t, 500, "lost")
}
