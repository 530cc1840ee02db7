package blend_test

import (
	"math"
	"math/rand"
	"reflect"
	"slices"
	"testing"

	"stearin/api"
	"stearin/blend"
)

// callAll calls all functions.
func callAll(l []api.BdWax, w api.BdWish, recipe []int, lots []api.BdLot, wax, number int) []any {
	part, at, e := blend.Check(l)
	raised, f := blend.Raise(l, wax, number)
	melt, shrink, price, g := blend.Value(l, recipe)
	melts, shrinks, h := blend.Made(l, recipe, lots)
	why, i := blend.Fits(l, w, recipe)
	best, cheap, j := blend.Cheapest(l, w)
	prices, k := blend.Stays(l, w, recipe, wax)
	grams, m := blend.Weigh(l, recipe, number)
	return []any{part, at, e, raised, f, melt, shrink, price, g, melts, shrinks, h, why, i, best, cheap, j, prices, k, grams, m}
}

// behind is a copy of a list, with one more element behind its end.
func behind[T any](list []T, more T) []T {
	return append(slices.Clone(list), more)[:len(list)]
}

// P2.15: arguments are as they were, also behind their length.
func TestArgumentsAreNotModified(t *testing.T) {
	eachCase(215, 150, func(r *rand.Rand, c someCase) {
		lots := anyLots(r, c.l)
		mark, point, lot := api.BdWax{Name: "behind"}, api.BdPoint{Parts: 71, Add: 72}, api.BdLot{Melt: 73}
		given := behind(c.l, mark)
		for i, x := range c.l {
			given[i].Curve = behind(x.Curve, point)
		}
		w := api.BdWish{Parts: behind(c.w.Parts, span(74, 75)), Melt: c.w.Melt, Shrink: c.w.Shrink}
		recipe, givenLots := behind(c.recipe, 76), behind(lots, lot)
		callAll(given, w, recipe, givenLots, r.Intn(len(given)), r.Intn(21))

		n := len(c.l)
		same := reflect.DeepEqual(w, c.w) && slices.Equal(recipe, c.recipe) && slices.Equal(givenLots, lots)
		same = same && w.Parts[:n+1][n] == span(74, 75) && recipe[:n+1][n] == 76 && givenLots[:n+1][n] == lot
		same = same && reflect.DeepEqual(given[:n+1][n], mark)
		for i, x := range c.l {
			curve := given[i].Curve
			same = same && slices.Equal(curve, x.Curve) && curve[:len(curve)+1][len(curve)] == point
			given[i].Curve = x.Curve
		}
		if !same || !reflect.DeepEqual(given, c.l) {
			t.Fatalf("%v, %v, %v, %v", given, w, recipe, givenLots)
		}
	})
}

// P2.15: the same call returns the same again.
func TestNothingIsKept(t *testing.T) {
	eachCase(2152, 60, func(r *rand.Rand, c someCase) {
		lots, wax, number := anyLots(r, c.l), r.Intn(len(c.l)), r.Intn(21)
		first := callAll(c.l, c.w, c.recipe, lots, wax, number)
		callAll(example(), exampleWish(), []int{4, 15, 1}, softLots(example()), 1, 3)
		if again := callAll(clone(c.l), cloneWish(c.w), slices.Clone(c.recipe), lots, wax, number); !reflect.DeepEqual(first, again) {
			t.Fatalf("%v; %v", first, again)
		}
	})
}

// P2.15: a result is not changed if an argument or another result is.
func TestResultsAreNewMemory(t *testing.T) {
	l, w, recipe := example(), exampleWish(), []int{4, 15, 1}
	first, _, _ := blend.Cheapest(l, w)
	second, _, _ := blend.Cheapest(l, w)
	clear(first[:cap(first)])
	if !slices.Equal(second, []int{4, 15, 1}) {
		t.Errorf("Cheapest = %v", second)
	}
	grams, _ := blend.Weigh(l, recipe, 1000)
	clear(recipe)
	if !slices.Equal(grams, []int{200, 750, 50}) {
		t.Errorf("Weigh = %v", grams)
	}
	recipe = []int{4, 15, 1}
	grams, _ = blend.Weigh(l, recipe, 1000)
	clear(grams[:cap(grams)])
	if !slices.Equal(recipe, []int{4, 15, 1}) {
		t.Errorf("recipe = %v", recipe)
	}
}

// P2.15, P1: any arguments are accepted. Each call returns, and with an error nothing else.
func TestAnyArgumentsAreAccepted(t *testing.T) {
	wild := []int{math.MinInt, math.MinInt + 1, -1000000, -301, -300, -2, -1, 0, 1, 2, 4, 5, 10, 19, 20, 21, 300, 301, 1000, 1001, 2000, 2001, 100000, 100001, 1000000, 1000001, math.MaxInt - 1, math.MaxInt}
	r := rand.New(rand.NewSource(2153))
	number := func() int {
		if r.Intn(3) > 0 {
			return r.Intn(21)
		}
		return wild[r.Intn(len(wild))]
	}
	wildSpan := func() api.Span { return span(number(), number()) }
	names := []string{"", "a", "b", "c", "d", "e", "-", "\xff"}
	for range 20000 {
		var l []api.BdWax
		var w api.BdWish
		var recipe []int
		var lots []api.BdLot
		for range r.Intn(4) {
			x := api.BdWax{Name: names[r.Intn(len(names))], Price: number(), Melt: wildSpan(), Shrink: wildSpan()}
			for range r.Intn(3) {
				x.Curve = append(x.Curve, api.BdPoint{Parts: number(), Add: number()})
			}
			l = append(l, x)
		}
		if r.Intn(2) == 0 {
			l = example()
		}
		for range r.Intn(5) {
			w.Parts, recipe, lots = append(w.Parts, wildSpan()), append(recipe, number()), append(lots, api.BdLot{Melt: number(), Shrink: number()})
		}
		w.Melt, w.Shrink = wildSpan(), wildSpan()
		ask(t, l, w, recipe, lots, number(), number())
	}
	callAll(nil, api.BdWish{}, nil, nil, 0, 0)
	callAll(example(), exampleWish(), []int{4, 15, 1}, nil, math.MinInt, math.MaxInt)
}

// R3: nil and empty are the same.
func TestNilAndEmptyAreTheSame(t *testing.T) {
	x, y := example(), example()
	x[0].Curve, y[0].Curve = nil, []api.BdPoint{}
	if !reflect.DeepEqual(callAll(x, exampleWish(), []int{4, 15, 1}, softLots(x), 0, 7), callAll(y, exampleWish(), []int{4, 15, 1}, softLots(y), 0, 7)) {
		t.Error("curves")
	}
	if !reflect.DeepEqual(callAll(example(), api.BdWish{}, nil, nil, 0, 0), callAll(example(), api.BdWish{Parts: []api.Span{}}, []int{}, []api.BdLot{}, 0, 0)) {
		t.Error("recipes")
	}
	if !reflect.DeepEqual(callAll(nil, api.BdWish{}, nil, nil, 0, 0), callAll([]api.BdWax{}, api.BdWish{}, nil, nil, 0, 0)) {
		t.Error("waxes")
	}
}
