package colour_test

import (
	"slices"
	"testing"

	"stearin/api"
	"stearin/colour"
)

// The examples of the chapter: P11.2.
func TestLeftOfTheExamples(t *testing.T) {
	for rinses, want := range []api.Span{span(20000, 40000), span(2000, 8000), span(200, 1600), span(20, 320)} {
		if got, e := colour.Left(example(), black, rinses); got != want || e != api.OK {
			t.Errorf("%d: Left = %v, %d, not %v", rinses, got, e, want)
		}
	}
}

// The examples of the chapter: P11.2.
func TestRinsesOfTheExamples(t *testing.T) {
	for _, c := range []struct {
		before int
		b      api.ClBatch
		want   int
		e      api.Errno
	}{
		{red, batch(white, 2000), 1, api.OK},
		{black, batch(white, 2000), 2, api.OK},
		{black, batch(white, 100), 0, api.ErrDown},
		{black, batch(red, 2000), 1, api.OK},
		{white, batch(red, 2000), 0, api.OK},
		{white, batch(black, 2000), 0, api.OK},
		{red, batch(black, 2000), 0, api.OK},
		{black, batch(black, 1), 0, api.OK},
	} {
		if got, e := colour.Rinses(example(), c.before, c.b); got != c.want || e != c.e {
			t.Errorf("%v after %d: Rinses = %d, %d, not %d, %d", c.b, c.before, got, e, c.want, c.e)
		}
	}
}

// The examples of the chapter: P11.3.
func TestOrdersOfTheExamples(t *testing.T) {
	for _, c := range []struct {
		start int
		order []int
		want  int
	}{
		{black, []int{2, 0, 1}, 150},
		{black, []int{0, 1, 2}, 100},
		{white, []int{1, 2, 0}, 0},
		{red, []int{1, 2, 0}, 50},
	} {
		if got, e := colour.Lost(example(), c.start, exampleBatches(), c.order); got != c.want || e != api.OK {
			t.Errorf("%d, %v: Lost = %d, %d, not %d", c.start, c.order, got, e, c.want)
		}
	}
	for _, c := range []struct {
		rinses []int
		want   int
	}{
		{[]int{0, 1, 0}, 1},
		{[]int{0, 2, 0}, nowhere},
		{[]int{3, 3, 3}, nowhere},
		{[]int{3, 0, 3}, 1},
		{[]int{0, 0, 0}, 1},
	} {
		if got, e := colour.Shows(example(), black, exampleBatches(), []int{0, 1, 2}, c.rinses); got != c.want || e != api.OK {
			t.Errorf("%v: Shows = %d, %d, not %d", c.rinses, got, e, c.want)
		}
	}
}

// The examples of the chapter: P11.4, P11.5.
func TestTheBestOfTheExamples(t *testing.T) {
	for _, c := range []struct {
		start, want int
		order       []int
	}{
		{black, 100, []int{0, 1, 2}},
		{white, 0, []int{1, 2, 0}},
	} {
		if order, lost, e := colour.Best(example(), c.start, exampleBatches()); !slices.Equal(order, c.order) || lost != c.want || e != api.OK {
			t.Errorf("%d: Best = %v, %d, %d", c.start, order, lost, e)
		}
	}
	if at, lost, e := colour.Rush(example(), white, exampleBatches(), []int{1, 2, 0}, batch(red, 2000)); at != 1 || lost != 0 || e != api.OK {
		t.Errorf("Rush = %d, %d, %d", at, lost, e)
	}
	for _, c := range []struct {
		starts [2]int
		want   int
		orders [2][]int
	}{
		{[2]int{black, white}, 0, [2][]int{nil, {1, 2, 0}}},
		{[2]int{black, black}, 100, [2][]int{nil, {0, 1, 2}}},
		// Black goes to the first machine, or all of them: none is less than the set of the first one of the three.
		{[2]int{white, black}, 0, [2][]int{{1, 2}, {0}}},
	} {
		orders, lost, e := colour.Two(example(), c.starts, exampleBatches())
		if !slices.Equal(orders[0], c.orders[0]) || !slices.Equal(orders[1], c.orders[1]) || lost != c.want || e != api.OK {
			t.Errorf("%v: Two = %v, %d, %d", c.starts, orders, lost, e)
		}
	}
}

// P11.2: what is left is rounded once, in the end, the least down and the greatest up.
func TestLeft(t *testing.T) {
	for _, c := range []struct {
		stay, keep api.Span
		want       [4]api.Span
	}{
		{span(0, 0), span(0, 1000), [4]api.Span{}},
		{span(0, 1), span(0, 1000), [4]api.Span{span(0, 1000), span(0, 1000), span(0, 1000), span(0, 1000)}},
		{span(1, 1), span(333, 333), [4]api.Span{span(1000, 1000), span(333, 333), span(110, 111), span(36, 37)}},
		{span(1, 1), span(999, 999), [4]api.Span{span(1000, 1000), span(999, 999), span(998, 999), span(997, 998)}},
		{span(7, 13), span(1, 1), [4]api.Span{span(7000, 13000), span(7, 13), span(0, 1), span(0, 1)}},
		{span(1000, 1000), span(1, 1), [4]api.Span{span(1000000, 1000000), span(1000, 1000), span(1, 1), span(0, 1)}},
		{span(1000, 1000), span(1000, 1000), [4]api.Span{span(1000000, 1000000), span(1000000, 1000000), span(1000000, 1000000), span(1000000, 1000000)}},
		{span(0, 1000), span(0, 0), [4]api.Span{span(0, 1000000), {}, {}, {}}},
		{span(5, 20), span(500, 750), [4]api.Span{span(5000, 20000), span(2500, 15000), span(1250, 11250), span(625, 8438)}},
		// Rounded after each rinse it were 33 to 125.
		{span(1, 1), span(333, 499), [4]api.Span{span(1000, 1000), span(333, 499), span(110, 250), span(36, 125)}},
		{span(3, 3), span(37, 37), [4]api.Span{span(3000, 3000), span(111, 111), span(4, 5), span(0, 1)}},
	} {
		s := pair(c.stay, c.keep, 0)
		for rinses, want := range c.want {
			if got, e := colour.Left(s, 0, rinses); got != want || e != api.OK {
				t.Errorf("%v, %v, %d: Left = %v, %d, not %v", c.stay, c.keep, rinses, got, e, want)
			}
			// The other colour is another one.
			if got, e := colour.Left(s, 1, rinses); got != (api.Span{}) || e != api.OK {
				t.Errorf("%v, %v, %d: Left = %v, %d", c.stay, c.keep, rinses, got, e)
			}
		}
	}
}

// P11.2: just as much as does not show is not too much.
func TestRinses(t *testing.T) {
	for _, c := range []struct {
		name       string
		stay, keep api.Span
		shows      int
		grams      int
		want       int
	}{
		{"it never stays", span(0, 0), span(1000, 1000), 0, 1, 0},
		{"it may never show", span(0, 1), span(0, 0), 0, mostGrams, 1},
		{"it may never show, and rinses leave some of it", span(0, 1), span(0, 1), 0, mostGrams, tooMany},
		{"just no rinse", span(0, 20), span(500, 500), 10, 2000, 0},
		{"nearly no rinse", span(0, 20), span(500, 500), 10, 1999, 1},
		{"just one", span(0, 20), span(0, 500), 10, 1000, 1},
		{"nearly one", span(0, 20), span(0, 500), 10, 999, 2},
		{"just two", span(0, 20), span(0, 500), 10, 500, 2},
		{"nearly two", span(0, 20), span(0, 500), 10, 499, 3},
		{"just three", span(0, 20), span(0, 500), 10, 250, 3},
		{"nearly three", span(0, 20), span(0, 500), 10, 249, tooMany},
		{"rinses leave all", span(0, 20), span(0, 1000), 10, 1999, tooMany},
		{"rinses leave all, and it does not matter", span(0, 20), span(0, 1000), 10, 2000, 0},
		{"rinses leave nothing", span(0, 1000), span(0, 0), 0, 1, 1},
		{"nothing at all stays less than it", span(20, 20), span(500, 500), 10, 1999, 1},
		{"all of it is much", span(1000, 1000), span(999, 999), 1000, 998, 3},
		{"all of it is nearly too much", span(1000, 1000), span(999, 999), 1000, 997, tooMany},
		{"all of it is not much", span(1000, 1000), span(999, 999), 1000, 1000, 0},
		{"a little of very much", span(1000, 1000), span(100, 100), 1, mostGrams, 1},
		{"a little of little", span(1, 1), span(100, 100), 1, 1, 3},
		{"a little of little, and more is left", span(1, 1), span(101, 101), 1, 1, tooMany},
		{"a little of little, and less is left", span(1, 1), span(31, 31), 1, 1, 2},
		{"a little of little, and a little more of that", span(1, 1), span(32, 32), 1, 1, 3},
		{"a little of little, and little is left", span(1, 1), span(1, 1), 1, 1, 1},
	} {
		want, f := c.want, api.OK
		if want == tooMany {
			want, f = 0, api.ErrDown
		}
		if got, e := colour.Rinses(pair(c.stay, c.keep, c.shows), 0, batch(1, c.grams)); got != want || e != f {
			t.Errorf("%s: Rinses = %d, %d, not %d", c.name, got, e, c.want)
		}
		// In its own batches, and before there was any of it, it does not show.
		for _, colours := range []int{0, 1} {
			if got, e := colour.Rinses(pair(c.stay, c.keep, c.shows), colours, batch(colours, c.grams)); got != 0 || e != api.OK {
				t.Errorf("%s: Rinses = %d, %d", c.name, got, e)
			}
		}
	}
}

// P11.2, P11.12: a colour does not show in its own batches, whatever its own number is.
func TestAColourDoesNotShowInItself(t *testing.T) {
	for own := range 3 {
		s := with(func(s *api.ClShop) { s.Keep, s.Colours[own].Shows[own] = span(1000, 1000), 0 })
		if got, e := colour.Rinses(s, own, batch(own, 1)); got != 0 || e != api.OK {
			t.Errorf("%d: Rinses = %d, %d", own, got, e)
		}
		l := batches(1, own, own)
		if got, e := colour.Lost(s, own, l, []int{1, 0}); got != 0 || e != api.OK {
			t.Errorf("%d: Lost = %d, %d", own, got, e)
		}
		if got, e := colour.Shows(s, own, l, []int{1, 0}, []int{0, 0}); got != nowhere || e != api.OK {
			t.Errorf("%d: Shows = %d, %d", own, got, e)
		}
	}
}

// tangle is a shop of four colours, of which each change needs another number of rinses: from the colour of a row to that of a column.
func tangle() api.ClShop {
	return chain(10,
		[]int{tooMany, 1, 3, 2},
		[]int{2, tooMany, 1, tooMany},
		[]int{0, 3, tooMany, 1},
		[]int{3, 0, 2, tooMany},
	)
}

// P11.3: what orders lose, by hand.
func TestLost(t *testing.T) {
	for _, c := range []struct {
		name    string
		s       api.ClShop
		start   int
		colours []int
		order   []int
		want    int
		e       api.Errno
	}{
		{"no batches", tangle(), 0, nil, nil, 0, api.OK},
		{"one batch of the start", tangle(), 0, []int{0}, []int{0}, 0, api.OK},
		{"one batch of another colour", tangle(), 0, []int{2}, []int{0}, 30, api.OK},
		{"one batch that cannot follow", tangle(), 1, []int{3}, []int{0}, 0, api.ErrDown},
		{"one after the other", tangle(), 0, []int{1, 2, 3}, []int{0, 1, 2}, 10 + 10 + 10, api.OK},
		{"the other way round", tangle(), 0, []int{1, 2, 3}, []int{2, 1, 0}, 20 + 20 + 30, api.OK},
		{"another order", tangle(), 0, []int{1, 2, 3}, []int{1, 2, 0}, 30 + 10 + 0, api.OK},
		{"one that cannot follow, at the end", tangle(), 0, []int{1, 2, 3}, []int{1, 0, 2}, 0, api.ErrDown},
		{"one that cannot follow, in the middle", tangle(), 0, []int{1, 2, 3}, []int{0, 2, 1}, 0, api.ErrDown},
		{"the same colours", tangle(), 2, []int{2, 2, 2}, []int{2, 0, 1}, 0, api.OK},
		{"back again", tangle(), 0, []int{1, 0, 1, 0}, []int{0, 1, 2, 3}, 10 + 20 + 10 + 20, api.OK},
		{"not back again", tangle(), 0, []int{1, 0, 1, 0}, []int{3, 1, 0, 2}, 10, api.OK},
		{"seven batches", tangle(), 3, []int{0, 1, 2, 3, 0, 1, 2}, []int{3, 1, 5, 2, 6, 0, 4}, 0 + 0 + 0 + 10 + 0 + 0 + 0, api.OK},
		{"a rinse of nothing", with(func(s *api.ClShop) { s.Rinse = 0 }), black, []int{white, red}, []int{0, 1}, 0, api.OK},
		{"a rinse of nothing, which does not help", with(func(s *api.ClShop) { s.Rinse, s.Keep.Hi = 0, 1000 }), black, []int{white, red}, []int{0, 1}, 0, api.ErrDown},
		{"rinses of much", with(func(s *api.ClShop) { s.Rinse = mostRinse }), black, []int{white, black, white}, []int{0, 1, 2}, 40000, api.OK},
	} {
		grams := 1000
		if len(c.s.Colours) == 3 {
			grams = 2000
		}
		if got, e := colour.Lost(c.s, c.start, batches(grams, c.colours...), c.order); got != c.want || e != c.e {
			t.Errorf("%s: Lost = %d, %d, not %d, %d", c.name, got, e, c.want, c.e)
		}
	}
}

// P11.3: each place has its own rinses, and its own colour before.
func TestShows(t *testing.T) {
	for _, c := range []struct {
		name                   string
		start                  int
		colours, order, rinses []int
		want                   int
	}{
		{"no batches", 0, nil, nil, nil, nowhere},
		{"the start does not show in itself", 0, []int{0}, []int{0}, []int{0}, nowhere},
		{"the start shows", 0, []int{1}, []int{0}, []int{0}, 0},
		{"the start does not show", 0, []int{1}, []int{0}, []int{1}, nowhere},
		{"more rinses than needed", 0, []int{1}, []int{0}, []int{3}, nowhere},
		{"one that cannot follow", 1, []int{3}, []int{0}, []int{3}, 0},
		{"just enough", 0, []int{1, 2, 3}, []int{0, 1, 2}, []int{1, 1, 1}, nowhere},
		{"one less at first", 0, []int{1, 2, 3}, []int{0, 1, 2}, []int{0, 1, 1}, 0},
		{"one less then", 0, []int{1, 2, 3}, []int{0, 1, 2}, []int{1, 0, 1}, 1},
		{"one less in the end", 0, []int{1, 2, 3}, []int{0, 1, 2}, []int{1, 1, 0}, 2},
		{"the first place of two", 0, []int{1, 2, 3}, []int{0, 1, 2}, []int{1, 0, 0}, 1},
		{"more than enough does not count later", 0, []int{1, 2, 3}, []int{0, 1, 2}, []int{3, 3, 0}, 2},
		{"in another order", 0, []int{1, 2, 3}, []int{2, 1, 0}, []int{2, 2, 3}, nowhere},
		{"in another order, and one less", 0, []int{1, 2, 3}, []int{2, 1, 0}, []int{2, 2, 2}, 2},
		{"the rinses are those of places, not of batches", 0, []int{1, 2, 3}, []int{1, 2, 0}, []int{3, 1, 0}, nowhere},
		{"the rinses of batches", 0, []int{1, 2, 3}, []int{1, 2, 0}, []int{0, 3, 1}, 0},
		{"an order that is not possible", 0, []int{1, 2, 3}, []int{0, 2, 1}, []int{1, 3, 3}, 1},
		{"after the one that shows, again", 0, []int{1, 1}, []int{1, 0}, []int{1, 0}, nowhere},
	} {
		if got, e := colour.Shows(tangle(), c.start, batches(1000, c.colours...), c.order, c.rinses); got != c.want || e != api.OK {
			t.Errorf("%s: Shows = %d, %d, not %d", c.name, got, e, c.want)
		}
	}
}

// P11.4: the best orders, by hand.
func TestBest(t *testing.T) {
	for _, c := range []struct {
		name    string
		s       api.ClShop
		start   int
		colours []int
		order   []int
		want    int
		e       api.Errno
	}{
		{"no batches", tangle(), 0, nil, nil, 0, api.OK},
		{"one batch", tangle(), 0, []int{2}, []int{0}, 30, api.OK},
		{"one batch that cannot follow", tangle(), 1, []int{3}, nil, 0, api.ErrDown},
		{"one colour: the first of all orders", tangle(), 1, []int{1, 1, 1}, []int{0, 1, 2}, 0, api.OK},
		{"the start first", tangle(), 1, []int{0, 0, 1}, []int{2, 0, 1}, 20, api.OK},
		{"the same colours together", tangle(), 2, []int{0, 1, 0, 1}, []int{0, 2, 1, 3}, 10, api.OK},
		{"over another colour", tangle(), 1, []int{3, 2}, []int{1, 0}, 20, api.OK},
		// The colours 1, 2, 3 lose 10, 10 and 10, and 3, 1, 2 lose 20, 0 and 10; all others lose more.
		{"the first one that loses the least", tangle(), 0, []int{1, 2, 3}, []int{0, 1, 2}, 30, api.OK},
		{"the first one, compared batch by batch", tangle(), 0, []int{1, 3, 2}, []int{0, 2, 1}, 30, api.OK},
		{"the first one, of batches in another order", tangle(), 0, []int{2, 1, 3}, []int{1, 0, 2}, 30, api.OK},
		{"the other one is the first one", tangle(), 0, []int{3, 2, 1}, []int{0, 2, 1}, 30, api.OK},
		{"a rinse of nothing", chain(0, []int{0, 3}, []int{3, 0}), 0, []int{1, 0, 1}, []int{0, 1, 2}, 0, api.OK},
		{"nothing can follow", chain(10, []int{0, tooMany}, []int{tooMany, 0}), 0, []int{0, 1}, nil, 0, api.ErrDown},
		{"a colour from which there is no way back", chain(10, []int{0, 0}, []int{tooMany, 0}), 0, []int{1, 0, 1, 0}, []int{1, 3, 0, 2}, 0, api.OK},
	} {
		order, lost, e := colour.Best(c.s, c.start, batches(1000, c.colours...))
		if !slices.Equal(order, c.order) || lost != c.want || e != c.e {
			t.Errorf("%s: Best = %v, %d, %d, not %v, %d, %d", c.name, order, lost, e, c.order, c.want, c.e)
		}
	}
}

// P11.5: where a rush order goes, by hand.
func TestRush(t *testing.T) {
	bridge := chain(10, []int{0, 1, tooMany}, []int{tooMany, 0, 1}, []int{tooMany, tooMany, 0})
	for _, c := range []struct {
		name           string
		s              api.ClShop
		start          int
		colours, order []int
		b              int
		at, want       int
		e              api.Errno
	}{
		{"nothing before", tangle(), 0, nil, nil, 1, 0, 10, api.OK},
		{"nothing before, and it cannot follow", tangle(), 1, nil, nil, 3, 0, 0, api.ErrDown},
		{"all places lose as much", tangle(), 1, []int{1, 1, 1}, []int{2, 0, 1}, 1, 0, 0, api.OK},
		{"the first one of two places", tangle(), 0, []int{1, 2}, []int{0, 1}, 1, 0, 20, api.OK},
		{"the first place of two at the end", tangle(), 0, []int{1, 2}, []int{0, 1}, 2, 1, 20, api.OK},
		{"the first one of two places that lose as much in other ways", tangle(), 0, []int{1, 2}, []int{0, 1}, 3, 0, 30, api.OK},
		{"the last place", tangle(), 1, []int{1, 2}, []int{0, 1}, 3, 2, 20, api.OK},
		{"the others stay in their order", tangle(), 0, []int{2, 1}, []int{0, 1}, 3, 1, 30 + 10 + 0, api.OK},
		{"it makes an order possible", bridge, 0, []int{2}, []int{0}, 1, 0, 20, api.OK},
		{"it makes an order possible, in the middle", bridge, 0, []int{2, 0}, []int{1, 0}, 1, 1, 20, api.OK},
		{"an order that stays impossible", bridge, 0, []int{0, 2}, []int{1, 0}, 1, 0, 0, api.ErrDown},
		{"a possible order, but it cannot be put anywhere", bridge, 1, []int{1, 2}, []int{0, 1}, 0, 0, 0, api.ErrDown},
		{"seven others", tangle(), 3, []int{0, 1, 2, 3, 0, 1, 2}, []int{3, 1, 5, 2, 6, 0, 4}, 2, 3, 10, api.OK},
	} {
		at, lost, e := colour.Rush(c.s, c.start, batches(1000, c.colours...), c.order, batch(c.b, 1000))
		if at != c.at || lost != c.want || e != c.e {
			t.Errorf("%s: Rush = %d, %d, %d, not %d, %d, %d", c.name, at, lost, e, c.at, c.want, c.e)
		}
	}
}

// P11.4: how two machines share batches, by hand.
func TestTwo(t *testing.T) {
	apart := chain(10, []int{0, tooMany}, []int{tooMany, 0})
	for _, c := range []struct {
		name    string
		s       api.ClShop
		starts  [2]int
		colours []int
		orders  [2][]int
		want    int
		e       api.Errno
	}{
		{"no batches", tangle(), [2]int{0, 1}, nil, [2][]int{}, 0, api.OK},
		{"the least set of all", tangle(), [2]int{1, 1}, []int{1, 1, 1}, [2][]int{nil, {0, 1, 2}}, 0, api.OK},
		{"one for the first machine", tangle(), [2]int{0, 1}, []int{0}, [2][]int{{0}, nil}, 0, api.OK},
		{"one for the second machine", tangle(), [2]int{0, 1}, []int{1}, [2][]int{nil, {0}}, 0, api.OK},
		{"each one its colour", apart, [2]int{0, 1}, []int{1, 0, 1, 0}, [2][]int{{1, 3}, {0, 2}}, 0, api.OK},
		{"each one its colour, the other way round", apart, [2]int{1, 0}, []int{1, 0, 1, 0}, [2][]int{{0, 2}, {1, 3}}, 0, api.OK},
		{"no machine for a colour", apart, [2]int{1, 1}, []int{1, 0}, [2][]int{}, 0, api.ErrDown},
		// 0 and 1 lose 10 on one machine, and on two.
		{"on one machine, if it is as good", tangle(), [2]int{0, 0}, []int{1, 0}, [2][]int{nil, {1, 0}}, 10, api.OK},
		// 2 loses 30 after 0, but 10 after 1, which loses 10.
		{"the least set of those that lose the least", tangle(), [2]int{0, 0}, []int{0, 1, 2}, [2][]int{nil, {0, 1, 2}}, 20, api.OK},
		// 3 and then 1 lose nothing after 3.
		{"all on the second machine", tangle(), [2]int{2, 3}, []int{1, 3}, [2][]int{nil, {1, 0}}, 0, api.OK},
		// 2, 2 and 0 lose 10 after 1; the second machine had 3, after which 2 loses 20 and 0 loses 30.
		{"all on the first machine", tangle(), [2]int{1, 3}, []int{2, 2, 0}, [2][]int{{0, 1, 2}, nil}, 10, api.OK},
		{"one on each machine", chain(10, []int{0, 1, 2}, []int{0, 0, tooMany}, []int{0, tooMany, 0}), [2]int{0, 0}, []int{2, 1}, [2][]int{{0}, {1}}, 30, api.OK},
		{"seven batches", apart, [2]int{1, 0}, []int{0, 0, 1, 0, 1, 1, 0}, [2][]int{{2, 4, 5}, {0, 1, 3, 6}}, 0, api.OK},
	} {
		orders, lost, e := colour.Two(c.s, c.starts, batches(1000, c.colours...))
		if !slices.Equal(orders[0], c.orders[0]) || !slices.Equal(orders[1], c.orders[1]) || lost != c.want || e != c.e {
			t.Errorf("%s: Two = %v, %d, %d, not %v, %d, %d", c.name, orders, lost, e, c.orders, c.want, c.e)
		}
	}
}
