package colour_test

import (
	"math"
	"slices"
	"strings"
	"testing"

	"stearin/api"
	"stearin/colour"
)

// broken is the shop S with a change, and what Check returns of it.
type broken struct {
	name     string
	change   func(s *api.ClShop)
	part, at int
	e        api.Errno
}

// brokenShops are shops with errors, and ones at the limits, which have none.
func brokenShops() []broken {
	list := []broken{
		{"S", func(s *api.ClShop) {}, 0, 0, api.OK},
		{"as much as there can be", func(s *api.ClShop) { *s = full() }, 0, 0, api.OK},
		{"as little as there can be", func(s *api.ClShop) { *s = shop(0, 0, 0, hue("a", 0, 0, 0)) }, 0, 0, api.OK},
		{"the zero value", func(s *api.ClShop) { *s = api.ClShop{} }, 1, 0, api.ErrLong},
		{"the zero value of a colour", func(s *api.ClShop) { *s = api.ClShop{Colours: make([]api.ClColour, 1)} }, 2, 0, api.ErrForm},
		{"no colours", func(s *api.ClShop) { s.Colours = nil }, 1, 0, api.ErrLong},
		{"far too many colours", func(s *api.ClShop) { s.Colours = make([]api.ClColour, 1000) }, 1, 0, api.ErrLong},
		{"the colours before the rinse", func(s *api.ClShop) { s.Colours, s.Rinse = nil, -1 }, 1, 0, api.ErrLong},
		{"the colours before an end", func(s *api.ClShop) { s.Colours, s.Keep.Hi = make([]api.ClColour, 7), 1001 }, 1, 0, api.ErrLong},
		{"the colours before the order", func(s *api.ClShop) { s.Colours, s.Keep = nil, span(2, 1) }, 1, 0, api.ErrLong},
		{"the order", func(s *api.ClShop) { s.Keep = span(201, 200) }, 1, 0, api.ErrArg},
		{"the order from end to end", func(s *api.ClShop) { s.Keep = span(1000, 0) }, 1, 0, api.ErrArg},
		{"one number", func(s *api.ClShop) { s.Keep = span(7, 7) }, 0, 0, api.OK},
		{"an end before its order", func(s *api.ClShop) { s.Keep = span(1001, 5) }, 1, 0, api.ErrRange},
		{"the other end before its order", func(s *api.ClShop) { s.Keep = span(5, -1) }, 1, 0, api.ErrRange},
		{"the rinse before the order", func(s *api.ClShop) { s.Rinse, s.Keep = mostRinse+1, span(2, 1) }, 1, 0, api.ErrRange},
		{"the rinse before a colour", func(s *api.ClShop) { s.Rinse, s.Colours[0].Name = -1, "" }, 1, 0, api.ErrRange},
		{"an end before a colour", func(s *api.ClShop) { s.Keep.Lo, s.Colours[0].Name = -1, "" }, 1, 0, api.ErrRange},
		{"the order before a colour", func(s *api.ClShop) { s.Keep, s.Colours[0].Name = span(2, 1), "" }, 1, 0, api.ErrArg},
	}
	for many := range 12 {
		part, want := 0, api.OK
		if many < 1 || many > mostColours {
			part, want = 1, api.ErrLong
		}
		list = append(list, broken{"colours", func(s *api.ClShop) {
			s.Colours = nil
			for i := range many {
				s.Colours = append(s.Colours, hue(string(rune('a'+i)), 1, 2, make([]int, many)...))
			}
		}, part, 0, want})
	}
	return slices.Concat(list, brokenColours(), brokenShows(), brokenNames(), brokenNumbers())
}

// brokenColours are shops of which a colour has an error, or nearly so.
func brokenColours() []broken {
	return []broken{
		{"the same name", func(s *api.ClShop) { s.Colours[1].Name = "white" }, 2, 1, api.ErrTwice},
		{"the same name, further behind", func(s *api.ClShop) { s.Colours[2].Name = "white" }, 2, 2, api.ErrTwice},
		{"the same name, and the last one", func(s *api.ClShop) { s.Colours[2].Name = "red" }, 2, 2, api.ErrTwice},
		{"the same name that is none", func(s *api.ClShop) { s.Colours[0].Name, s.Colours[1].Name = "a-", "a-" }, 2, 0, api.ErrForm},
		{"a name before Shows", func(s *api.ClShop) { s.Colours[2] = hue("", 0, 0) }, 2, 2, api.ErrForm},
		{"a name before a number of Shows", func(s *api.ClShop) { s.Colours[0] = hue("Red", 0, 0, 0, 0, -1) }, 2, 0, api.ErrForm},
		{"a name before an end", func(s *api.ClShop) { s.Colours[0] = hue("a-", 0, mostStay+1, 0, 0, 0) }, 2, 0, api.ErrForm},
		{"a name before the order", func(s *api.ClShop) { s.Colours[0] = hue("-", 2, 1, 0, 0, 0) }, 2, 0, api.ErrForm},
		{"the same name before Shows", func(s *api.ClShop) { s.Colours[1] = hue("white", 0, 0) }, 2, 1, api.ErrTwice},
		{"the same name before a number of Shows", func(s *api.ClShop) { s.Colours[1] = hue("white", 0, 0, 0, 1001, 0) }, 2, 1, api.ErrTwice},
		{"the same name before an end", func(s *api.ClShop) { s.Colours[2] = hue("red", -1, 0, 0, 0, 0) }, 2, 2, api.ErrTwice},
		{"the same name before the order", func(s *api.ClShop) { s.Colours[2] = hue("red", 2, 1, 0, 0, 0) }, 2, 2, api.ErrTwice},
		{"Shows before its numbers", func(s *api.ClShop) { s.Colours[1].Shows = []int{-1, 1001} }, 2, 1, api.ErrLong},
		{"too many Shows before their numbers", func(s *api.ClShop) { s.Colours[1].Shows = []int{0, 0, 0, -1} }, 2, 1, api.ErrLong},
		{"Shows before an end", func(s *api.ClShop) { s.Colours[2] = hue("c", -1, 0, 1, 2) }, 2, 2, api.ErrLong},
		{"Shows before the order", func(s *api.ClShop) { s.Colours[2] = hue("c", 2, 1, 1, 2, 3, 4) }, 2, 2, api.ErrLong},
		{"a number of Shows before the order", func(s *api.ClShop) { s.Colours[2] = hue("c", 2, 1, 1, 2, -1) }, 2, 2, api.ErrRange},
		{"an end before the order", func(s *api.ClShop) { s.Colours[1].Stay = span(mostStay+1, 5) }, 2, 1, api.ErrRange},
		{"the other end before the order", func(s *api.ClShop) { s.Colours[1].Stay = span(5, -1) }, 2, 1, api.ErrRange},
		{"the order", func(s *api.ClShop) { s.Colours[0].Stay = span(21, 20) }, 2, 0, api.ErrArg},
		{"the order from end to end", func(s *api.ClShop) { s.Colours[2].Stay = span(mostStay, 0) }, 2, 2, api.ErrArg},
		{"one number", func(s *api.ClShop) { s.Colours[2].Stay = span(9, 9) }, 0, 0, api.OK},
		{"the first colour with an error, an order", func(s *api.ClShop) { s.Colours[0].Stay, s.Colours[1].Name = span(2, 1), "" }, 2, 0, api.ErrArg},
		{"the first colour with an error, an end", func(s *api.ClShop) { s.Colours[1].Stay.Lo, s.Colours[2].Name = -1, "" }, 2, 1, api.ErrRange},
		{"the first colour with an error, a number of Shows", func(s *api.ClShop) { s.Colours[1].Shows[2], s.Colours[2].Name = 1001, "white" }, 2, 1, api.ErrRange},
		{"the first colour with an error, Shows", func(s *api.ClShop) { s.Colours[0].Shows, s.Colours[1].Name = nil, "" }, 2, 0, api.ErrLong},
		{"the first colour with an error, a name", func(s *api.ClShop) { s.Colours[1].Name, s.Colours[2].Name = "white", "" }, 2, 1, api.ErrTwice},
	}
}

// brokenShows are shops of which a colour has another number of Shows.
func brokenShows() []broken {
	var list []broken
	for i := range 3 {
		for many := range 9 {
			part, at, want := 2, i, api.ErrLong
			if many == 3 {
				part, at, want = 0, 0, api.OK
			}
			list = append(list, broken{"Shows", func(s *api.ClShop) { s.Colours[i].Shows = make([]int, many) }, part, at, want})
		}
	}
	// As many as there are in all, and as many as there can be.
	return append(list,
		broken{"a colour less", func(s *api.ClShop) { s.Colours = s.Colours[:2] }, 2, 0, api.ErrLong},
		broken{"a colour more", func(s *api.ClShop) { s.Colours = append(s.Colours, hue("blue", 0, 0, 0, 0, 0, 0)) }, 2, 0, api.ErrLong},
		broken{"far too many Shows", func(s *api.ClShop) { s.Colours[1].Shows = make([]int, 100000) }, 2, 1, api.ErrLong})
}

// brokenNames are shops with names, and such as are none.
func brokenNames() []broken {
	var list []broken
	for i := range 3 {
		for _, name := range []string{"", "-", "a-", "-a", "a--b", "White", "off white", "weiß", "a1", "a\n", strings.Repeat("a", 21)} {
			list = append(list, broken{"a colour without a name", func(s *api.ClShop) { s.Colours[i].Name = name }, 2, i, api.ErrForm})
		}
		for _, name := range []string{"a", "z", "a-b", "a-b-c", "off-white", strings.Repeat("z", 20)} {
			list = append(list, broken{"names", func(s *api.ClShop) { s.Colours[i].Name = name }, 0, 0, api.OK})
		}
	}
	return list
}

// brokenNumbers are shops of which one number is not in its range, or at one of its ends.
func brokenNumbers() []broken {
	var list []broken
	add := func(name string, part, at, least, most int, number func(s *api.ClShop) *int) {
		for _, n := range outside(least, most) {
			list = append(list, broken{name, func(s *api.ClShop) { *number(s) = n }, part, at, api.ErrRange})
		}
		for _, n := range []int{least, most} {
			list = append(list, broken{name + ", at an end", func(s *api.ClShop) { *number(s) = n }, 0, 0, api.OK})
		}
	}
	add("the rinse", 1, 0, 0, mostRinse, func(s *api.ClShop) *int { return &s.Rinse })
	// The other end is as far away as it can be, so that the order is kept.
	add("a rinse leaves at least", 1, 0, 0, 1000, func(s *api.ClShop) *int { s.Keep.Hi = 1000; return &s.Keep.Lo })
	add("a rinse leaves at most", 1, 0, 0, 1000, func(s *api.ClShop) *int { s.Keep.Lo = 0; return &s.Keep.Hi })
	for i := range 3 {
		add("at least stays", 2, i, 0, mostStay, func(s *api.ClShop) *int { own := &s.Colours[i].Stay; own.Hi = mostStay; return &own.Lo })
		add("at most stays", 2, i, 0, mostStay, func(s *api.ClShop) *int { own := &s.Colours[i].Stay; own.Lo = 0; return &own.Hi })
		for j := range 3 {
			add("a number of Shows", 2, i, 0, 1000, func(s *api.ClShop) *int { return &s.Colours[i].Shows[j] })
		}
	}
	return list
}

// P11.1
func TestCheckNamesTheFirstError(t *testing.T) {
	for _, c := range brokenShops() {
		if part, at, e := colour.Check(with(c.change)); part != c.part || at != c.at || e != c.e {
			t.Errorf("%s: Check = %d, %d, %d, not %d, %d, %d", c.name, part, at, e, c.part, c.at, c.e)
		}
	}
}

// given are the arguments of all functions; start is also the colour before, and the colour of Left.
type given struct {
	s             api.ClShop
	start, many   int
	starts        [2]int
	b             api.ClBatch
	l             []api.ClBatch
	order, rinses []int
}

// good are arguments without an error.
func good() given {
	return given{s: example(), start: black, many: 2, starts: [2]int{black, white}, b: batch(red, 3000), l: exampleBatches(), order: []int{0, 1, 2}, rinses: []int{0, 2, 0}}
}

// changed are good arguments with changes.
func changed(changes ...func(g *given)) given {
	g := good()
	for _, change := range changes {
		change(&g)
	}
	return g
}

// answers are the errors of all functions but Check.
type answers struct{ left, rinses, lost, shows, best, rush, two api.Errno }

// list are these errors, in the order of the functions.
func (a answers) list() []api.Errno {
	return []api.Errno{a.left, a.rinses, a.lost, a.shows, a.best, a.rush, a.two}
}

// ofAll are answers in which all functions return the same error.
func ofAll(e api.Errno) answers { return answers{e, e, e, e, e, e, e} }

// ofBatches are answers in which all functions with batches return the same error.
func ofBatches(e api.Errno) answers { return answers{lost: e, shows: e, best: e, rush: e, two: e} }

// ofOrder are answers in which all functions with an order return the same error.
func ofOrder(e api.Errno) answers { return answers{lost: e, shows: e, rush: e} }

// ask calls all functions but Check, and reports an error that comes with another result.
func ask(t *testing.T, g given) answers {
	t.Helper()
	a := askAll(g)
	zero := []bool{
		a.left == api.Span{},
		a.rinses == 0,
		a.lost == 0,
		a.shows == 0,
		len(a.best) == 0 && a.loses == 0,
		a.at == 0 && a.rushed == 0,
		len(a.orders[0]) == 0 && len(a.orders[1]) == 0 && a.both == 0,
	}
	for i, e := range a.errors.list() {
		if e != api.OK && !zero[i] || e < api.OK || e > api.ErrDown {
			t.Fatalf("%v: the function %d returns the error %d and more: %v", g, i, e, a)
		}
	}
	return a.errors
}

// P11.2, P11.3, P11.4, P11.5: arguments without an error have none.
func TestNoError(t *testing.T) {
	if a := ask(t, good()); a != (answers{}) {
		t.Errorf("%v", a)
	}
}

// P11.1, P1: all functions but Check return its error first, whatever else is wrong.
func TestTheErrorOfTheShopComesFirst(t *testing.T) {
	for _, c := range brokenShops() {
		if c.e == api.OK {
			continue
		}
		for _, g := range []given{
			good(),
			{start: -1, many: -1, starts: [2]int{-1, -1}, b: batch(-1, -1)},
			{start: 6, many: 4, starts: [2]int{0, 6}, l: make([]api.ClBatch, 8), order: make([]int, 8), rinses: make([]int, 8)},
			{l: batches(0, 0, 9), order: []int{3, 3}, rinses: []int{4}},
			{l: batches(1, 0), order: []int{math.MaxInt}, b: batch(0, math.MinInt)},
		} {
			g.s = with(c.change)
			if a := ask(t, g); a != ofAll(c.e) {
				t.Errorf("%s: %v, not %d", c.name, a, c.e)
			}
		}
	}
}

// P11.2, P11.3, P11.4, P11.5: the colour that a machine had before is one of the shop, whatever else is wrong.
func TestTheStartIsAColour(t *testing.T) {
	for colours := 1; colours <= mostColours; colours++ {
		s := full()
		s.Colours = s.Colours[:colours]
		for i := range s.Colours {
			s.Colours[i].Shows = s.Colours[i].Shows[:colours]
		}
		for _, n := range append(outside(0, colours-1), first(8)...) {
			known := 0 <= n && n < colours
			right := given{s: s, start: n, starts: [2]int{0, n}, b: batch(0, 1), l: batches(1000, 0), order: []int{0}, rinses: []int{0}}
			other := right
			other.starts = [2]int{n, 0}
			wrong := given{s: s, start: n, many: 4, starts: [2]int{n, n}, b: batch(9, 0), l: make([]api.ClBatch, 9), order: []int{0, 0}, rinses: []int{-1}}
			for _, g := range []given{right, other, wrong} {
				a := ask(t, g)
				if !known && a != ofAll(api.ErrNone) || known && g.many == 0 && (a.left != api.OK || a.two != api.OK) {
					t.Errorf("%d of %d: %v", n, colours, a)
				}
			}
		}
	}
}

// P11.2, P11.5: the error of one batch: its colour, and then its grams.
func TestTheErrorOfABatch(t *testing.T) {
	for _, colours := range append(outside(0, 2), 0, 1, 2, 3, 5) {
		for _, grams := range append(outside(1, mostGrams), 0, 1, 2000, mostGrams) {
			want := api.OK
			switch {
			case colours < 0 || colours > 2:
				want = api.ErrNone
			case grams < 1 || grams > mostGrams:
				want = api.ErrRange
			}
			s := with(func(s *api.ClShop) { s.Keep = span(0, 0) })
			a := ask(t, changed(func(g *given) { g.s, g.b = s, batch(colours, grams) }))
			if a != (answers{rinses: want, rush: want}) {
				t.Errorf("%d, %d: %v, not %d", colours, grams, a, want)
			}
			for at := range 3 {
				a := ask(t, changed(func(g *given) { g.s, g.l[at] = s, batch(colours, grams) }))
				if a != ofBatches(want) {
					t.Errorf("%d, %d at %d: %v, not %d", colours, grams, at, a, want)
				}
			}
		}
	}
}

// P11.3, P11.4, P11.5: there are not more batches than stated; of those the first one with an error decides.
func TestTheErrorOfBatches(t *testing.T) {
	for many := range 12 {
		for _, l := range [][]api.ClBatch{slices.Repeat(batches(5, white), many), slices.Repeat(batches(0, white), many), slices.Repeat(batches(5, 3), many)} {
			want := api.OK
			switch {
			case many > mostBatches:
				want = api.ErrLong
			case many > 0 && l[0].Grams == 0:
				want = api.ErrRange
			case many > 0 && l[0].Colour == 3:
				want = api.ErrNone
			}
			g := changed(func(g *given) {
				g.start, g.b, g.l, g.order, g.rinses = white, batch(white, 1), l, first(many), make([]int, many)
			})
			if a := ask(t, g); a != ofBatches(want) {
				t.Errorf("%v: %v, not %d", l, a, want)
			}
		}
	}
	if a := ask(t, changed(func(g *given) { g.l, g.order = make([]api.ClBatch, 100000), first(100000) })); a != ofBatches(api.ErrLong) {
		t.Errorf("%v", a)
	}
	for i, c := range []struct {
		l    []api.ClBatch
		want api.Errno
	}{
		{[]api.ClBatch{batch(red, 0), batch(3, 1)}, api.ErrRange},
		{[]api.ClBatch{batch(3, 1), batch(red, 0)}, api.ErrNone},
		{[]api.ClBatch{batch(-1, 0), batch(red, 0)}, api.ErrNone},
		{[]api.ClBatch{batch(red, 1), batch(red, mostGrams+1), batch(9, 0)}, api.ErrRange},
		{[]api.ClBatch{batch(red, 1), batch(red, 2), batch(9, 0)}, api.ErrNone},
	} {
		for _, order := range [][]int{nil, {0, 0}, {5, 1}, first(len(c.l))} {
			if a := ask(t, changed(func(g *given) { g.l, g.order = c.l, order })); a != ofBatches(c.want) {
				t.Errorf("%d: %v, not %d", i, a, c.want)
			}
		}
	}
}

// P11.3, P11.5: an order has each batch once.
func TestTheErrorOfAnOrder(t *testing.T) {
	s := with(func(s *api.ClShop) { s.Keep = span(0, 0) })
	for many := range 5 {
		l := slices.Repeat(batches(5, red), many)
		for numbers := range 6 {
			// All lists of so many numbers, from -1 to the number of batches.
			for order := range lists(numbers, -1, many) {
				want := api.OK
				sorted := slices.Sorted(slices.Values(order))
				switch {
				case numbers != many:
					want = api.ErrLong
				case slices.Contains(order, -1) || slices.Contains(order, many):
					want = api.ErrNone
				case len(slices.Compact(sorted)) < many:
					want = api.ErrTwice
				}
				if a := ask(t, changed(func(g *given) { g.s, g.l, g.order, g.rinses = s, l, order, make([]int, many) })); a.lost != want || a.rush != want || a.shows != want || a.best != api.OK {
					t.Fatalf("%d batches, %v: %v, not %d", many, order, a, want)
				}
			}
		}
	}
	for at := range 3 {
		for _, n := range outside(0, 2) {
			for _, others := range [][]int{{0, 1, 2}, {0, 0, 0}} {
				order := slices.Clone(others)
				order[at] = n
				if a := ask(t, changed(func(g *given) { g.order = order })); a != ofOrder(api.ErrNone) {
					t.Errorf("%v: %v", order, a)
				}
			}
		}
	}
	if a := ask(t, changed(func(g *given) { g.order = first(100000) })); a != ofOrder(api.ErrLong) {
		t.Errorf("%v", a)
	}
}

// lists yields all lists of so many numbers from least to most.
func lists(many, least, most int) func(yield func(list []int) bool) {
	return func(yield func(list []int) bool) {
		list := slices.Repeat([]int{least}, many)
		for yield(slices.Clone(list)) {
			at := 0
			for at < many && list[at] == most {
				list[at] = least
				at++
			}
			if at == many {
				return
			}
			list[at]++
		}
	}
}

// P11.2, P11.3: how many rinses there can be.
func TestTheErrorOfRinses(t *testing.T) {
	for _, n := range append(outside(0, mostRinses), 0, 1, 2, 3, 4) {
		want := api.OK
		if n < 0 || n > mostRinses {
			want = api.ErrRange
		}
		if a := ask(t, changed(func(g *given) { g.many = n })); a != (answers{left: want}) {
			t.Errorf("%d: %v", n, a)
		}
		for at := range 3 {
			if a := ask(t, changed(func(g *given) { g.rinses[at] = n })); a != (answers{shows: want}) {
				t.Errorf("%d at %d: %v", n, at, a)
			}
		}
	}
	for many := range 12 {
		for _, n := range []int{0, 3, 4, -1} {
			want := api.OK
			switch {
			case many != 3:
				want = api.ErrLong
			case n < 0 || n > 3:
				want = api.ErrRange
			}
			if a := ask(t, changed(func(g *given) { g.rinses = slices.Repeat([]int{n}, many) })); a != (answers{shows: want}) {
				t.Errorf("%d times %d: %v", many, n, a)
			}
		}
	}
}

// fault is a change of good arguments, and which error each function returns of it.
type fault struct {
	name   string
	change func(g *given)
	want   answers
}

// faults are faults in the order in which all functions name them.
func faults() []fault {
	return []fault{
		{"the shop", func(g *given) { g.s.Colours[1].Stay = span(2, 1) }, ofAll(api.ErrArg)},
		{"the start", func(g *given) { g.start, g.starts[1] = 3, 3 }, ofAll(api.ErrNone)},
		{"how many rinses", func(g *given) { g.many = 4 }, answers{left: api.ErrRange}},
		{"too many batches", func(g *given) { g.l = append(g.l, make([]api.ClBatch, 5)...) }, ofBatches(api.ErrLong)},
		{"the grams of a batch", func(g *given) { g.l[0].Grams = 0 }, ofBatches(api.ErrRange)},
		{"the colour of a later batch", func(g *given) { g.l[1].Colour = 3 }, ofBatches(api.ErrNone)},
		{"the length of an order", func(g *given) { g.order = append(g.order, 0) }, ofOrder(api.ErrLong)},
		{"a number of an order", func(g *given) { g.order[2] = 3 }, ofOrder(api.ErrNone)},
		{"a batch that is twice in an order", func(g *given) { g.order[1] = g.order[0] }, ofOrder(api.ErrTwice)},
		{"the length of rinses", func(g *given) { g.rinses = g.rinses[:2] }, answers{shows: api.ErrLong}},
		{"rinses", func(g *given) { g.rinses[0] = 4 }, answers{shows: api.ErrRange}},
		{"the colour of the batch", func(g *given) { g.b.Colour = 3 }, answers{rinses: api.ErrNone, rush: api.ErrNone}},
		{"the grams of the batch", func(g *given) { g.b.Grams = 0 }, answers{rinses: api.ErrRange, rush: api.ErrRange}},
		{"nothing can follow", func(g *given) { g.s.Keep, g.s.Colours[2].Shows = span(1000, 1000), make([]int, 3) }, answers{rinses: api.ErrDown, lost: api.ErrDown, best: api.ErrDown, rush: api.ErrDown}},
	}
}

// P1, R1: of two faults that a function can name, it names the one that comes first.
func TestTheOrderOfErrors(t *testing.T) {
	for _, c := range faults() {
		for _, d := range faults() {
			got := ask(t, changed(c.change, d.change)).list()
			one, other := ask(t, changed(c.change)), ask(t, changed(d.change))
			if one != c.want || other != d.want {
				t.Fatalf("%s: %v; %s: %v", c.name, one, d.name, other)
			}
			for i, e := range got {
				if e != firstOf(i, c, d) {
					t.Errorf("%s, and %s: the function %d returns the error %d, not %d", c.name, d.name, i, e, firstOf(i, c, d))
				}
			}
		}
	}
}

// firstOf is the error of a function with two faults, whichever one is given first.
func firstOf(function int, given ...fault) api.Errno {
	for _, c := range faults() {
		if e := c.want.list()[function]; e != api.OK && slices.ContainsFunc(given, func(d fault) bool { return d.name == c.name }) {
			return e
		}
	}
	return api.OK
}

// P11.2, P11.3, P11.4, P11.5: what is not possible. Shows still tells where something shows.
func TestNothingIsPossible(t *testing.T) {
	never := with(func(s *api.ClShop) { s.Colours[2].Shows = make([]int, 3) })
	for i, c := range []struct {
		g    given
		want answers
	}{
		// Nothing can follow black but black.
		{changed(func(g *given) { g.s = never }), answers{rinses: api.ErrDown, lost: api.ErrDown, best: api.ErrDown, rush: api.ErrDown}},
		{changed(func(g *given) { g.s, g.start = never, white }), answers{lost: api.ErrDown, rush: api.ErrDown}},
		{changed(func(g *given) { g.s, g.start, g.order = never, white, []int{1, 2, 0} }), answers{}},
		{changed(func(g *given) { g.s, g.starts = never, [2]int{black, black} }), answers{rinses: api.ErrDown, lost: api.ErrDown, best: api.ErrDown, rush: api.ErrDown, two: api.ErrDown}},
		{changed(func(g *given) { g.s, g.starts, g.l = never, [2]int{black, black}, batches(2000, black, black, black) }), answers{rinses: api.ErrDown, rush: api.ErrDown}},
		{changed(func(g *given) { g.s, g.b, g.l = never, batch(black, 1), batches(2000, black, black, black) }), answers{}},
	} {
		if a := ask(t, c.g); a != c.want {
			t.Errorf("%d: %v, not %v", i, a, c.want)
		}
	}
}
