package blend_test

import (
	"math/rand"
	"slices"
	"testing"

	"stearin/api"
	"stearin/blend"
)

// P2.3, P2.7: whatever the lots are, the blend is within its ranges, and both ends of each are reached.
func TestAllLotsAreWithinTheValue(t *testing.T) {
	eachCase(27, 3000, func(r *rand.Rand, c someCase) {
		melt, shrink, price, e := blend.Value(c.l, c.recipe)
		leastMelt, leastShrink := made(c.l, c.recipe, softLots(c.l))
		mostMelt, mostShrink := made(c.l, c.recipe, hardLots(c.l))
		if e != api.OK || melt != span(leastMelt, mostMelt) || shrink != span(leastShrink, mostShrink) || price != priceOf(c.l, c.recipe) {
			t.Fatalf("%v, %v: Value = %v, %v, %d, %d", c.l, c.recipe, melt, shrink, price, e)
		}
		for _, lots := range [][]api.BdLot{anyLots(r, c.l), anyLots(r, c.l), softLots(c.l), hardLots(c.l)} {
			melts, shrinks, e := blend.Made(c.l, c.recipe, lots)
			wantMelt, wantShrink := made(c.l, c.recipe, lots)
			if e != api.OK || melts != wantMelt || shrinks != wantShrink {
				t.Fatalf("%v, %v, %v: Made = %d, %d, %d, not %d, %d", c.l, c.recipe, lots, melts, shrinks, e, wantMelt, wantShrink)
			}
			if melts < melt.Lo || melts > melt.Hi || shrinks < shrink.Lo || shrinks > shrink.Hi {
				t.Fatalf("%v, %v, %v: Made = %d, %d; Value = %v, %v", c.l, c.recipe, lots, melts, shrinks, melt, shrink)
			}
		}
	})
}

// P2.4, P2.8: a recipe fits if no lots break a bound, and there are lots that break the bound that is named.
func TestFitsHoldsForAllLots(t *testing.T) {
	seen := map[int]int{}
	eachCase(28, 6000, func(r *rand.Rand, c someCase) {
		recipe := c.recipe
		if r.Intn(4) == 0 {
			recipe = anyRecipe(r, len(c.l))
		}
		why, e := blend.Fits(c.l, c.w, recipe)
		if e != api.OK || why != reason(c.l, c.w, recipe) {
			t.Fatalf("%v, %v, %v: Fits = %d, %d", c.l, c.w, recipe, why, e)
		}
		seen[why]++
		broken := false
		for _, lots := range [][]api.BdLot{anyLots(r, c.l), softLots(c.l), hardLots(c.l)} {
			melt, shrink, _ := blend.Made(c.l, recipe, lots)
			in := melt >= 20*c.w.Melt.Lo && melt <= 20*c.w.Melt.Hi && shrink >= 20*c.w.Shrink.Lo && shrink <= 20*c.w.Shrink.Hi
			broken = broken || !in
		}
		if why == api.BdFits && broken || why != api.BdFits && why != api.BdParts && !broken {
			t.Fatalf("%v, %v, %v: Fits = %d", c.l, c.w, recipe, why)
		}
	})
	for why := api.BdFits; why <= api.BdShrinks; why++ {
		if seen[why] < 100 {
			t.Errorf("Fits = %d just %d times", why, seen[why])
		}
	}
}

// P2.5, P2.9: Cheapest returns the first one of the least price of all recipes, tried one by one; or none if none fits.
func TestNoRecipeThatFitsIsCheaper(t *testing.T) {
	down, equal := 0, 0
	eachCase(29, 800, func(r *rand.Rand, c someCase) {
		var want []int
		for _, recipe := range fitted(c.l, c.w, c.all) {
			if want != nil && priceOf(c.l, recipe) == priceOf(c.l, want) {
				equal++
			}
			if want == nil || priceOf(c.l, recipe) < priceOf(c.l, want) {
				want = recipe
			}
		}
		recipe, price, e := blend.Cheapest(c.l, c.w)
		if want == nil {
			down++
			if len(recipe) != 0 || price != 0 || e != api.ErrDown {
				t.Fatalf("%v, %v: Cheapest = %v, %d, %d", c.l, c.w, recipe, price, e)
			}
			return
		}
		if !slices.Equal(recipe, want) || price != priceOf(c.l, want) || e != api.OK {
			t.Fatalf("%v, %v: Cheapest = %v, %d, %d, not %v", c.l, c.w, recipe, price, e, want)
		}
		_, _, value, _ := blend.Value(c.l, recipe)
		if why, e := blend.Fits(c.l, c.w, recipe); why != api.BdFits || e != api.OK || value != price {
			t.Fatalf("%v, %v: Fits of %v = %d, %d; Value = %d, not %d", c.l, c.w, recipe, why, e, value, price)
		}
	})
	if down < 40 || equal < 100 {
		t.Errorf("just %d wishes that nothing fits, %d recipes as cheap as others", down, equal)
	}
}

// staying are the prices from 0 to 100000 of a wax, tried one by one, with which no recipe of a list is cheaper; by their ends, and how many they are.
func staying(l []api.BdWax, recipes [][]int, own []int, wax int) (s api.Span, many int) {
	// The least price of the other waxes, of the recipes that have so many parts of this one.
	var rest [21]int
	for n := range rest {
		rest[n] = -1
	}
	besides := func(recipe []int) int { return priceOf(l, recipe) - recipe[wax]*l[wax].Price }
	for _, recipe := range recipes {
		if n := recipe[wax]; rest[n] < 0 || besides(recipe) < rest[n] {
			rest[n] = besides(recipe)
		}
	}
	for x := range 100001 {
		price, cheaper := besides(own)+own[wax]*x, false
		for n, more := range rest {
			cheaper = cheaper || more >= 0 && more+n*x < price
		}
		if cheaper {
			continue
		}
		if many == 0 {
			s.Lo = x
		}
		s.Hi = x
		many++
	}
	return s, many
}

// P2.5, P2.10: with each price of the range of Stays no recipe is cheaper, with each other one some is.
func TestStaysIsJustThePricesThatDo(t *testing.T) {
	down, bounded := 0, 0
	eachCase(210, 500, func(r *rand.Rand, c someCase) {
		recipes := fitted(c.l, c.w, c.all)
		if len(recipes) == 0 {
			return
		}
		own, wax := recipes[r.Intn(len(recipes))], r.Intn(len(c.l))
		if r.Intn(3) > 0 {
			own, _, _ = blend.Cheapest(c.l, c.w)
		}
		want, many := staying(c.l, recipes, own, wax)
		if many > 0 && many != want.Hi-want.Lo+1 {
			t.Fatalf("%v: %d prices", want, many)
		}
		s, e := blend.Stays(c.l, c.w, own, wax)
		if s != want || (e == api.OK) != (many > 0) || e != api.OK && e != api.ErrDown {
			t.Fatalf("%v, %v: Stays of %v, %d = %v, %d, not %v", c.l, c.w, own, wax, s, e, want)
		}
		if e != api.OK {
			down++
		} else if s != span(0, 100000) {
			bounded++
		}
	})
	if down < 15 || bounded < 60 {
		t.Errorf("just %d recipes that never stay, %d that stay within bounds", down, bounded)
	}
}

// P2.5, P2.10: what Cheapest returns stays at its own prices; a recipe that does not fit never does.
func TestTheCheapestStaysAtItsPrices(t *testing.T) {
	eachCase(2102, 300, func(r *rand.Rand, c someCase) {
		if best, _, e := blend.Cheapest(c.l, c.w); e == api.OK {
			for wax, x := range c.l {
				s, e := blend.Stays(c.l, c.w, best, wax)
				if e != api.OK || x.Price < s.Lo || x.Price > s.Hi {
					t.Fatalf("%v, %v: Stays of %v, %d = %v, %d", c.l, c.w, best, wax, s, e)
				}
			}
		}
		other := anyRecipe(r, len(c.l))
		if s, e := blend.Stays(c.l, c.w, other, r.Intn(len(c.l))); reason(c.l, c.w, other) != api.BdFits && (s != api.Span{} || e != api.ErrDown) {
			t.Fatalf("%v, %v: Stays of %v = %v, %d", c.l, c.w, other, s, e)
		}
	})
}

// P2.6, P2.11: the grams are those of the batch, and each of them is nearly its part of it; up to each wax they are rounded down.
func TestNoGramIsLost(t *testing.T) {
	eachCase(211, 3000, func(r *rand.Rand, c someCase) {
		batch := []int{r.Intn(50), r.Intn(5000), r.Intn(1000001), 1000000}[r.Intn(4)]
		grams, e := blend.Weigh(c.l, c.recipe, batch)
		if e != api.OK || len(grams) != len(c.l) {
			t.Fatalf("%v, %d: Weigh = %v, %d", c.recipe, batch, grams, e)
		}
		together, parts := 0, 0
		for i, n := range grams {
			together += n
			parts += c.recipe[i]
			if away := 20*n - batch*c.recipe[i]; away <= -20 || away >= 20 || n < 0 {
				t.Fatalf("%v, %d: Weigh = %v", c.recipe, batch, grams)
			}
			if rest := batch*parts - 20*together; rest < 0 || rest >= 20 {
				t.Fatalf("%v, %d: Weigh = %v", c.recipe, batch, grams)
			}
		}
		if together != batch {
			t.Fatalf("%v, %d: Weigh = %v", c.recipe, batch, grams)
		}
	})
}

// narrower is a random range within another one.
func narrower(r *rand.Rand, s api.Span) api.Span {
	a, b := within(r, s), within(r, s)
	return span(min(a, b), max(a, b))
}

// wider is a random range from 0 to most that contains another one.
func wider(r *rand.Rand, s api.Span, most int) api.Span {
	return span(within(r, span(0, s.Lo)), within(r, span(s.Hi, most)))
}

// P2.12: with narrower ranges of lots all that fitted still fits; with a wider wish the cheapest recipe is no dearer; with a higher price none is cheaper.
func TestLessIsKnown(t *testing.T) {
	eachCase(212, 400, func(r *rand.Rand, c someCase) {
		_, price, e := blend.Cheapest(c.l, c.w)
		if e != api.OK {
			return
		}
		narrow, dear, wide := clone(c.l), clone(c.l), cloneWish(c.w)
		for i, x := range c.l {
			narrow[i].Melt, narrow[i].Shrink = narrower(r, x.Melt), narrower(r, x.Shrink)
			wide.Parts[i] = wider(r, c.w.Parts[i], 20)
		}
		wide.Melt, wide.Shrink = wider(r, c.w.Melt, 2000), wider(r, c.w.Shrink, 1000)
		at := r.Intn(len(dear))
		dear[at].Price = within(r, span(dear[at].Price, 100000))
		for range 20 {
			recipe := c.all[r.Intn(len(c.all))]
			before, _ := blend.Fits(c.l, c.w, recipe)
			after, _ := blend.Fits(narrow, c.w, recipe)
			_, _, cheap, _ := blend.Value(c.l, recipe)
			if _, _, now, _ := blend.Value(dear, recipe); before == api.BdFits && after != api.BdFits || now < cheap {
				t.Fatalf("%v, %v, %v, %v: %d, %d; %d, %d", c.l, narrow, c.w, recipe, before, after, cheap, now)
			}
		}
		if _, now, e := blend.Cheapest(c.l, wide); e != api.OK || now > price {
			t.Fatalf("%v, %v, %v: %d, %d, not %d", c.l, c.w, wide, now, e, price)
		}
		if _, now, e := blend.Cheapest(narrow, c.w); e != api.OK || now > price {
			t.Fatalf("%v, %v, %v: %d, %d, not %d", c.l, narrow, c.w, now, e, price)
		}
		if _, now, e := blend.Cheapest(dear, c.w); e != api.OK || now < price {
			t.Fatalf("%v, %v, %v: %d, %d, not %d", c.l, dear, c.w, now, e, price)
		}
	})
}

// P2.2, P2.13: at each point it is its Add, between two it is between theirs, and outside of all it is the nearest one; with just the number that the line has, rounded down.
func TestCurvesGoThroughTheirPoints(t *testing.T) {
	eachCase(213, 1500, func(r *rand.Rand, c someCase) {
		for i, x := range c.l {
			for n := range 21 {
				got, e := blend.Raise(c.l, i, n)
				if e != api.OK || got != raised(x.Curve, n) {
					t.Fatalf("%v: Raise of %d = %d, %d, not %d", x.Curve, n, got, e, raised(x.Curve, n))
				}
				least, most := 0, 0
				if len(x.Curve) > 0 {
					after := slices.IndexFunc(x.Curve, func(p api.BdPoint) bool { return p.Parts >= n })
					before := len(x.Curve) - 1
					if after >= 0 {
						before = max(0, after-1)
					}
					if after < 0 {
						after = before
					}
					if x.Curve[after].Parts == n {
						before = after
					}
					least, most = min(x.Curve[before].Add, x.Curve[after].Add), max(x.Curve[before].Add, x.Curve[after].Add)
				}
				if got < least || got > most {
					t.Fatalf("%v: Raise of %d = %d, not from %d to %d", x.Curve, n, got, least, most)
				}
			}
		}
	})
}

// P2.14: in another order of the waxes all is the same, but for which of several equal recipes is the first one.
func TestWaxesInAnyOrder(t *testing.T) {
	eachCase(214, 300, func(r *rand.Rand, c someCase) {
		var l []api.BdWax
		var recipe []int
		w := api.BdWish{Melt: c.w.Melt, Shrink: c.w.Shrink}
		for _, i := range r.Perm(len(c.l)) {
			l, recipe, w.Parts = append(l, c.l[i]), append(recipe, c.recipe[i]), append(w.Parts, c.w.Parts[i])
		}
		_, price, e := blend.Cheapest(c.l, c.w)
		_, other, f := blend.Cheapest(l, w)
		if price != other || e != f {
			t.Fatalf("%v, %v: %d, %d; %v, %v: %d, %d", c.l, c.w, price, e, l, w, other, f)
		}
		melt, shrink, price, _ := blend.Value(c.l, c.recipe)
		if m, s, p, _ := blend.Value(l, recipe); m != melt || s != shrink || p != price {
			t.Fatalf("%v, %v: %v, %v, %d, not %v, %v, %d", l, recipe, m, s, p, melt, shrink, price)
		}
	})
}
