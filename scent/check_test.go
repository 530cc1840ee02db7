package scent_test

import (
	"math"
	"slices"
	"strings"
	"testing"

	"stearin/api"
	"stearin/scent"
)

// broken is the example shop with a change, and what Check returns of it.
type broken struct {
	name     string
	change   func(s *api.ScShop)
	part, at int
	e        api.Errno
}

// brokenShops are shops with errors, and ones at the limits, which have none.
func brokenShops() []broken {
	list := []broken{
		{"S", func(s *api.ScShop) {}, 0, 0, api.OK},
		{"as much as there can be", func(s *api.ScShop) { *s, _ = full() }, 0, 0, api.OK},
		{"as little as there can be", func(s *api.ScShop) { *s, _ = plain(api.ScThing{}, span(0, 0)) }, 0, 0, api.OK},
		{"the zero value", func(s *api.ScShop) { *s = api.ScShop{} }, 1, 0, api.ErrLong},
		{"no things", func(s *api.ScShop) { s.Things = nil }, 1, 0, api.ErrLong},
		{"no lots", func(s *api.ScShop) { s.Lots = nil }, 1, 0, api.ErrLong},
		{"a thing too many", func(s *api.ScShop) { s.Things = make([]api.ScThing, 6) }, 1, 0, api.ErrLong},
		{"a lot too many", func(s *api.ScShop) { s.Lots = make([]api.ScLot, 7) }, 1, 0, api.ErrLong},
		{"far too many", func(s *api.ScShop) { s.Things, s.Lots = make([]api.ScThing, 1000), make([]api.ScLot, 1000) }, 1, 0, api.ErrLong},
		{"as many things as there can be, with errors", func(s *api.ScShop) { s.Things = make([]api.ScThing, 5) }, 2, 0, api.ErrForm},
		{"as many lots as there can be, with errors", func(s *api.ScShop) { s.Lots = make([]api.ScLot, 6) }, 3, 0, api.ErrForm},
		{"no lots before a thing", func(s *api.ScShop) { s.Lots, s.Things[0].Name = nil, "" }, 1, 0, api.ErrLong},
		{"a thing before a lot", func(s *api.ScShop) { s.Lots[0].Name, s.Things[2].Limit = "", -1 }, 2, 2, api.ErrRange},
		{"a name before the same name", func(s *api.ScShop) { s.Things[0].Name, s.Things[1].Name = "a-", "a-" }, 2, 0, api.ErrForm},
		{"the same name that is none", func(s *api.ScShop) { s.Things[2] = s.Things[1]; s.Things[1].Kind = 3 }, 2, 1, api.ErrArg},
		{"the same name", func(s *api.ScShop) { s.Things[1].Name = "rose" }, 2, 1, api.ErrTwice},
		{"the same name, further behind", func(s *api.ScShop) { s.Things[2].Name = "rose" }, 2, 2, api.ErrTwice},
		{"the same name before a kind", func(s *api.ScShop) { s.Things[2].Name, s.Things[2].Kind = "red", 3 }, 2, 2, api.ErrTwice},
		{"a name before a kind", func(s *api.ScShop) { s.Things[2].Name, s.Things[2].Kind = "Red", 3 }, 2, 2, api.ErrForm},
		{"a kind before a limit", func(s *api.ScShop) { s.Things[0].Kind, s.Things[0].Limit = 3, -1 }, 2, 0, api.ErrArg},
		{"the first thing with an error", func(s *api.ScShop) { s.Things[0].Limit, s.Things[1].Name = -1, "" }, 2, 0, api.ErrRange},
		{"a dye that weakens", func(s *api.ScShop) { s.Things[1].Weak = 1 }, 2, 1, api.ErrRange},
		{"a metal that weakens", func(s *api.ScShop) { s.Things[2].Weak = 1 }, 2, 2, api.ErrRange},
		{"a metal that weakens less than nothing", func(s *api.ScShop) { s.Things[2].Weak = -1 }, 2, 2, api.ErrRange},
		{"a scent that fades", func(s *api.ScShop) { s.Things[0].Fade = 1 }, 2, 0, api.ErrRange},
		{"a metal that fades", func(s *api.ScShop) { s.Things[2].Fade = 1 }, 2, 2, api.ErrRange},
		{"a scent that fades less than nothing", func(s *api.ScShop) { s.Things[0].Fade = -1 }, 2, 0, api.ErrRange},
		{"a scent without a weakness", func(s *api.ScShop) { s.Things[0].Weak = 0 }, 0, 0, api.OK},
		{"a dye that stays", func(s *api.ScShop) { s.Things[1].Fade = 0 }, 0, 0, api.OK},
		{"things of one kind", func(s *api.ScShop) { s.Things[1].Kind, s.Things[2].Kind, s.Things[1].Fade = 0, 0, 0 }, 0, 0, api.OK},
		{"a lot named as a thing", func(s *api.ScShop) { s.Lots[0].Name = "lead" }, 0, 0, api.OK},
		{"two lots of the same name", func(s *api.ScShop) { s.Lots[1].Name = "bees" }, 3, 1, api.ErrTwice},
		{"the same name before the parts", func(s *api.ScShop) { s.Lots[1] = lot("bees") }, 3, 1, api.ErrTwice},
		{"no name before the parts", func(s *api.ScShop) { s.Lots[1] = lot("bees-") }, 3, 1, api.ErrForm},
		{"no parts", func(s *api.ScShop) { s.Lots[0].Parts = nil }, 3, 0, api.ErrLong},
		{"parts too few", func(s *api.ScShop) { s.Lots[1].Parts = spans(2) }, 3, 1, api.ErrLong},
		{"parts too many", func(s *api.ScShop) { s.Lots[1].Parts = spans(4) }, 3, 1, api.ErrLong},
		{"parts far too many", func(s *api.ScShop) { s.Lots[1].Parts = spans(1000) }, 3, 1, api.ErrLong},
		{"too few parts before an end", func(s *api.ScShop) { s.Lots[1].Parts = []api.Span{span(-1, 0), span(2, 1)} }, 3, 1, api.ErrLong},
		{"an end before an order", func(s *api.ScShop) { s.Lots[0].Parts = []api.Span{span(2, 1), span(1, 1), span(0, 1000001)} }, 3, 0, api.ErrRange},
		{"an end before the order of the same range", func(s *api.ScShop) { s.Lots[0].Parts[2] = span(1000001, 0) }, 3, 0, api.ErrRange},
		{"the order", func(s *api.ScShop) { s.Lots[1].Parts[0] = span(20001, 20000) }, 3, 1, api.ErrArg},
		{"the order of the last range", func(s *api.ScShop) { s.Lots[1].Parts[2] = span(1000000, 0) }, 3, 1, api.ErrArg},
		{"one number", func(s *api.ScShop) { s.Lots[1].Parts[2] = span(1000000, 1000000) }, 0, 0, api.OK},
		{"the first lot with an error", func(s *api.ScShop) { s.Lots[0].Parts[2], s.Lots[1].Name = span(3, 2), "" }, 3, 0, api.ErrArg},
	}
	return slices.Concat(list, brokenNames(), brokenNumbers())
}

// brokenNames are shops with names, and such as are none.
func brokenNames() []broken {
	var list []broken
	for _, name := range []string{"", "-", "a-", "-a", "a--b", "Rose", "rose red", "rosé", "a1", "a\n", strings.Repeat("a", 21)} {
		for i := range 3 {
			list = append(list, broken{"a thing without a name", func(s *api.ScShop) { s.Things[i].Name = name }, 2, i, api.ErrForm})
		}
		for i := range 2 {
			list = append(list, broken{"a lot without a name", func(s *api.ScShop) { s.Lots[i].Name = name }, 3, i, api.ErrForm})
		}
	}
	for _, name := range []string{"a", "z", "a-b", "a-b-c", strings.Repeat("z", 20)} {
		list = append(list, broken{"names", func(s *api.ScShop) { s.Things[2].Name, s.Lots[1].Name = name, name }, 0, 0, api.OK})
	}
	return list
}

// brokenNumbers are shops of which one number is not in its range, or at one of its ends.
func brokenNumbers() []broken {
	var list []broken
	add := func(name string, part, at, least, most int, e api.Errno, number func(s *api.ScShop) *int) {
		for _, n := range outside(least, most) {
			list = append(list, broken{name, func(s *api.ScShop) { *number(s) = n }, part, at, e})
		}
		for _, n := range []int{least, most} {
			list = append(list, broken{name + ", at an end", func(s *api.ScShop) { *number(s) = n }, 0, 0, api.OK})
		}
	}
	for i := range 3 {
		add("limit", 2, i, 0, 1000000, api.ErrRange, func(s *api.ScShop) *int { return &s.Things[i].Limit })
		add("kind", 2, i, 0, 2, api.ErrArg, func(s *api.ScShop) *int { s.Things[i].Weak, s.Things[i].Fade = 0, 0; return &s.Things[i].Kind })
		// In the place of each kind there can be a scent and a dye.
		add("weak", 2, i, 0, 100, api.ErrRange, func(s *api.ScShop) *int { s.Things[i].Kind, s.Things[i].Fade = 0, 0; return &s.Things[i].Weak })
		add("fade", 2, i, 0, 1000, api.ErrRange, func(s *api.ScShop) *int { s.Things[i].Kind, s.Things[i].Weak = 1, 0; return &s.Things[i].Fade })
		for j := range 2 {
			// The other end is as far away as it can be, so that the order is kept.
			add("parts at least", 3, j, 0, 1000000, api.ErrRange, func(s *api.ScShop) *int { own := &s.Lots[j].Parts[i]; own.Hi = 1000000; return &own.Lo })
			add("parts at most", 3, j, 0, 1000000, api.ErrRange, func(s *api.ScShop) *int { own := &s.Lots[j].Parts[i]; own.Lo = 0; return &own.Hi })
		}
	}
	return list
}

// P7.1
func TestCheckNamesTheFirstError(t *testing.T) {
	for _, c := range brokenShops() {
		if part, at, e := scent.Check(with(c.change)); part != c.part || at != c.at || e != c.e {
			t.Errorf("%s: Check = %d, %d, %d, not %d, %d, %d", c.name, part, at, e, c.part, c.at, c.e)
		}
	}
}

// P7.1: a thing of a kind has no number of another one.
func TestJustScentsWeakenAndJustDyesFade(t *testing.T) {
	for kind := range 3 {
		for _, c := range []struct {
			weak, fade int
			ofKind     []int
		}{{0, 0, []int{0, 1, 2}}, {1, 0, []int{0}}, {100, 0, []int{0}}, {101, 0, nil}, {0, 1, []int{1}}, {0, 1000, []int{1}}, {0, 1001, nil}, {1, 1, nil}, {-1, 0, nil}, {0, -1, nil}} {
			s, _ := plain(api.ScThing{Kind: kind, Weak: c.weak, Fade: c.fade}, span(0, 0))
			part, at, e := scent.Check(s)
			if slices.Contains(c.ofKind, kind) != (e == api.OK) || e != api.OK && (part != 2 || at != 0 || e != api.ErrRange) {
				t.Errorf("%v: Check = %d, %d, %d", s.Things, part, at, e)
			}
		}
	}
}

// given are the arguments of all functions.
type given struct {
	s                      api.ScShop
	l                      []api.ScBatch
	batch, lot, dye, shows int
	t                      api.ScTruth
}

// good are arguments without an error.
func good() given {
	return given{s: example(), l: melted(), batch: 0, dye: 1, shows: 50, t: api.ScTruth{Lots: [][]int{{0, 0, 1}, {15000, 600, 100}}, Added: []int{20500, 0, 0}}}
}

// answers are the errors of all functions but Check.
type answers struct{ content, made, left, keeps, take, pull, pale api.Errno }

// same are answers that are all the same.
func same(e api.Errno) answers { return answers{e, e, e, e, e, e, e} }

// ask calls all functions but Check, and reports an error that comes with another result.
func ask(t *testing.T, g given) answers {
	t.Helper()
	var a answers
	var content [][]api.Span
	var made, left []int
	var pull []api.Span
	var take api.Span
	var batch, thing, can, must int
	content, a.content = scent.Content(g.s, g.l)
	made, a.made = scent.Made(g.s, g.l, g.batch, g.t)
	left, a.left = scent.Left(g.s, g.l)
	batch, thing, a.keeps = scent.Keeps(g.s, g.l)
	take, a.take = scent.Take(g.s, g.l, g.lot)
	pull, a.pull = scent.Pull(g.s, g.l)
	can, must, a.pale = scent.Pale(g.s, g.l, g.dye, g.shows)
	for i, c := range []struct {
		e    api.Errno
		zero bool
	}{
		{a.content, len(content) == 0},
		{a.made, len(made) == 0},
		{a.left, len(left) == 0},
		{a.keeps, batch == 0 && thing == 0},
		{a.take, take == api.Span{}},
		{a.pull, len(pull) == 0},
		{a.pale, can == 0 && must == 0},
	} {
		if c.e != api.OK && !c.zero || c.e < api.OK || c.e > api.ErrDown {
			t.Fatalf("%v: the function %d returns the error %d and more", g, i, c.e)
		}
	}
	return a
}

// P7.1, P1: all functions but Check return the error of the shop first, whatever else is wrong.
func TestTheErrorOfTheShopComesFirst(t *testing.T) {
	for _, c := range brokenShops() {
		if c.e == api.OK {
			continue
		}
		for _, g := range []given{
			good(),
			{batch: -1, lot: -1, dye: -1, shows: -1},
			{l: make([]api.ScBatch, 7), batch: 7, lot: 6, dye: 5, shows: 1000001},
			{l: make([]api.ScBatch, 2), batch: 2, lot: 2, dye: 2},
			{l: []api.ScBatch{{Grams: []int{0, 0}, Back: []int{1}, Added: spans(3)}}},
			{l: []api.ScBatch{{Grams: []int{0, 0}, Added: spans(3)}}, batch: math.MaxInt, dye: math.MinInt},
		} {
			g.s = with(c.change)
			if a := ask(t, g); a != same(c.e) {
				t.Errorf("%s: %v, not %d", c.name, a, c.e)
			}
		}
	}
}

// brokenBatch is three batches with a change, and the error of the batches.
type brokenBatch struct {
	name   string
	change func(l *[]api.ScBatch)
	e      api.Errno
}

// brokenBatches are batches with errors, and ones at the limits, which have none.
func brokenBatches() []brokenBatch {
	list := []brokenBatch{
		{"three", func(l *[]api.ScBatch) {}, api.OK},
		{"no batches", func(l *[]api.ScBatch) { *l = nil }, api.ErrLong},
		{"one batch", func(l *[]api.ScBatch) { *l = (*l)[:1] }, api.OK},
		{"as many as there can be", func(l *[]api.ScBatch) { *l = append(*l, (*l)[0], (*l)[0], (*l)[0]) }, api.OK},
		{"one too many", func(l *[]api.ScBatch) { *l = append(*l, (*l)[0], (*l)[0], (*l)[0], (*l)[0]) }, api.ErrLong},
		{"too many, with errors", func(l *[]api.ScBatch) { *l = make([]api.ScBatch, 7) }, api.ErrLong},
		{"the zero value", func(l *[]api.ScBatch) { (*l)[1] = api.ScBatch{} }, api.ErrLong},
		{"no grams", func(l *[]api.ScBatch) { (*l)[0].Grams = nil }, api.ErrLong},
		{"too few grams", func(l *[]api.ScBatch) { (*l)[0].Grams = []int{800} }, api.ErrLong},
		{"too many grams", func(l *[]api.ScBatch) { (*l)[2].Grams = []int{0, 100, 0} }, api.ErrLong},
		{"nothing added", func(l *[]api.ScBatch) { (*l)[0].Added = nil }, api.ErrLong},
		{"too few added", func(l *[]api.ScBatch) { (*l)[1].Added = spans(2) }, api.ErrLong},
		{"too many added", func(l *[]api.ScBatch) { (*l)[2].Added = spans(4) }, api.ErrLong},
		{"the first batch with one that comes back", func(l *[]api.ScBatch) { (*l)[0].Back = []int{0} }, api.ErrLong},
		{"the second batch with itself", func(l *[]api.ScBatch) { (*l)[1].Back = []int{400, 0} }, api.ErrLong},
		{"the third batch with itself", func(l *[]api.ScBatch) { (*l)[2].Back = []int{0, 0, 0} }, api.ErrLong},
		{"a batch with many too many", func(l *[]api.ScBatch) { (*l)[2].Back = make([]int, 1000) }, api.ErrLong},
		{"fewer that come back", func(l *[]api.ScBatch) { (*l)[2].Back = []int{600} }, api.OK},
		{"none that comes back", func(l *[]api.ScBatch) { (*l)[1].Back, (*l)[2].Back = nil, nil }, api.OK},
		{"too many grams before a number", func(l *[]api.ScBatch) { (*l)[0].Grams, (*l)[0].Added[0].Lo = []int{-1, 0, 0}, -1 }, api.ErrLong},
		{"too many added before a number", func(l *[]api.ScBatch) { (*l)[2].Grams[0], (*l)[2].Added = -1, spans(4) }, api.ErrLong},
		{"too many that come back before a number", func(l *[]api.ScBatch) { (*l)[0].Back, (*l)[0].Added[0].Lo = []int{-1}, -1 }, api.ErrLong},
		{"too many that come back before an order", func(l *[]api.ScBatch) { (*l)[1].Back, (*l)[1].Added[0].Lo = []int{1, 1}, 1 }, api.ErrLong},
		{"a number before an order", func(l *[]api.ScBatch) { (*l)[2].Added[0], (*l)[2].Added[2].Hi = span(2, 1), -1 }, api.ErrRange},
		{"grams before an order", func(l *[]api.ScBatch) { (*l)[2].Added[0], (*l)[2].Grams[1] = span(2, 1), 100001 }, api.ErrRange},
		{"what comes back before an order", func(l *[]api.ScBatch) { (*l)[2].Added[0], (*l)[2].Back[1] = span(2, 1), 100001 }, api.ErrRange},
		{"what comes back before what is left", func(l *[]api.ScBatch) { (*l)[1].Back[0] = 100001 }, api.ErrRange},
		{"an order", func(l *[]api.ScBatch) { (*l)[2].Added[2] = span(1, 0) }, api.ErrArg},
		{"an order from end to end", func(l *[]api.ScBatch) { (*l)[0].Added[0] = span(10000000, 0) }, api.ErrArg},
		{"an order before no weight", func(l *[]api.ScBatch) { (*l)[0].Grams, (*l)[0].Added[1] = []int{0, 0}, span(1, 0) }, api.ErrArg},
		{"an order before what is left", func(l *[]api.ScBatch) { (*l)[1].Back[0], (*l)[1].Added[1] = 1001, span(1, 0) }, api.ErrArg},
		{"no weight", func(l *[]api.ScBatch) { (*l)[0].Grams = []int{0, 0} }, api.ErrZero},
		{"no weight, with something added", func(l *[]api.ScBatch) { (*l)[2].Grams, (*l)[2].Back = []int{0, 0}, []int{0, 0} }, api.ErrZero},
		{"no weight, and none that comes back", func(l *[]api.ScBatch) { (*l)[2].Grams, (*l)[2].Back = []int{0, 0}, nil }, api.ErrZero},
		{"just what comes back", func(l *[]api.ScBatch) { (*l)[1].Grams = []int{0, 0} }, api.OK},
		{"a gram", func(l *[]api.ScBatch) { (*l)[2].Grams, (*l)[2].Back = []int{0, 1}, nil }, api.OK},
		{"more than all", func(l *[]api.ScBatch) { (*l)[1].Back[0] = 1001 }, api.ErrDown},
		{"all", func(l *[]api.ScBatch) { (*l)[1].Back[0], (*l)[2].Back[0] = 1000, 0 }, api.OK},
		{"more than the one between has left", func(l *[]api.ScBatch) { (*l)[2].Back[0] = 601 }, api.ErrDown},
		{"more than all of the second one", func(l *[]api.ScBatch) { (*l)[2].Back[1] = 901 }, api.ErrDown},
		{"all of the second one", func(l *[]api.ScBatch) { (*l)[2].Back[1] = 900 }, api.OK},
		{"more taken by the one between", func(l *[]api.ScBatch) { (*l)[1].Back[0] = 401 }, api.ErrDown},
		// The first batch with an error decides.
		{"no weight before too many", func(l *[]api.ScBatch) { (*l)[0].Grams, (*l)[1].Grams = []int{0, 0}, nil }, api.ErrZero},
		{"an order before too many", func(l *[]api.ScBatch) { (*l)[0].Added[0], (*l)[1].Grams = span(1, 0), nil }, api.ErrArg},
		{"more than all before too many", func(l *[]api.ScBatch) { (*l)[1].Back[0], (*l)[2].Grams = 1001, nil }, api.ErrDown},
		{"too many before more than is left", func(l *[]api.ScBatch) { (*l)[1].Added, (*l)[2].Back[0] = nil, 1000 }, api.ErrLong},
		{"a number before more than is left", func(l *[]api.ScBatch) { (*l)[1].Grams[0], (*l)[2].Back[0] = -1, 1000 }, api.ErrRange},
		{"no weight before more than is left", func(l *[]api.ScBatch) { (*l)[1].Grams[0], (*l)[1].Back[0], (*l)[2].Back[0] = 0, 0, 1001 }, api.ErrZero},
		{"a number of a batch before no weight", func(l *[]api.ScBatch) { (*l)[1].Added[2].Hi, (*l)[2].Grams, (*l)[2].Back = -1, []int{0, 0}, nil }, api.ErrRange},
	}
	return append(list, brokenBatchNumbers()...)
}

// brokenBatchNumbers are batches of which one number is not in its range, or at one of its ends.
func brokenBatchNumbers() []brokenBatch {
	var list []brokenBatch
	add := func(name string, least, most int, atMost api.Errno, number func(l []api.ScBatch) *int) {
		for _, n := range outside(least, most) {
			list = append(list, brokenBatch{name, func(l *[]api.ScBatch) { *number(*l) = n }, api.ErrRange})
		}
		list = append(list,
			brokenBatch{name + ", at least", func(l *[]api.ScBatch) { *number(*l) = least }, api.OK},
			brokenBatch{name + ", at most", func(l *[]api.ScBatch) { *number(*l) = most }, atMost})
	}
	for at := range 3 {
		for i := range 2 {
			// So that all is left that is taken, the other lot is enough.
			add("grams", 0, 100000, api.OK, func(l []api.ScBatch) *int { l[at].Grams[1-i] = 1000; return &l[at].Grams[i] })
		}
		for i := range at {
			add("back", 0, 100000, api.ErrDown, func(l []api.ScBatch) *int { l[at].Grams[0] = 1000; return &l[at].Back[i] })
		}
		for i := range 3 {
			add("added at least", 0, 10000000, api.OK, func(l []api.ScBatch) *int { own := &l[at].Added[i]; own.Hi = 10000000; return &own.Lo })
			add("added at most", 0, 10000000, api.OK, func(l []api.ScBatch) *int { own := &l[at].Added[i]; own.Lo = 0; return &own.Hi })
		}
	}
	// As much as there can be is as much as there is left.
	list = append(list, brokenBatch{"back, at most", func(l *[]api.ScBatch) { (*l)[0].Grams, (*l)[1].Back[0], (*l)[2].Back[0] = []int{100000, 1}, 100000, 1 }, api.OK})
	return list
}

// P7.2 to P7.5: then comes the error of the batches, whatever else is wrong.
func TestTheErrorOfTheBatches(t *testing.T) {
	for _, c := range brokenBatches() {
		for _, g := range []given{
			good(),
			{batch: -1, lot: -1, dye: -1, shows: -1},
			{batch: 1000, lot: 1000, dye: 1000, shows: 1000001, t: api.ScTruth{Lots: [][]int{nil}}},
			{dye: 0, t: api.ScTruth{Lots: [][]int{{-1, 0, 0}, {0, 0, 0}}, Added: []int{0, 0, 0}}},
		} {
			g.s, g.l = example(), three()
			c.change(&g.l)
			a := ask(t, g)
			if c.e != api.OK && a != same(c.e) {
				t.Errorf("%s: %v, not %d", c.name, a, c.e)
			}
			if c.e == api.OK && (a.content != api.OK || a.left != api.OK || a.keeps != api.OK || a.pull != api.OK) {
				t.Errorf("%s: %v", c.name, a)
			}
		}
	}
}

// P7.2: there is no such batch.
func TestTheErrorOfTheIndexOfABatch(t *testing.T) {
	for _, n := range append(outside(0, 1), 6, -6) {
		for _, truth := range []api.ScTruth{good().t, {}, {Lots: [][]int{{-1}}}} {
			g := good()
			g.batch, g.t = n, truth
			if a := ask(t, g); a != (answers{made: api.ErrNone}) {
				t.Errorf("%d: %v", n, a)
			}
		}
	}
}

// truthOf is a truth of a batch of three.
func truthOf(at int) api.ScTruth {
	t, _, _ := truthAt(example(), three(), at)
	return t
}

// P7.2: a truth has a list for each lot, and for each number in Back, with a number for each thing.
func TestTheLengthsOfATruth(t *testing.T) {
	three := three()
	for at := range three {
		for i, c := range []struct {
			change func(t *api.ScTruth)
			e      api.Errno
		}{
			{func(t *api.ScTruth) {}, api.OK},
			{func(t *api.ScTruth) { *t = api.ScTruth{} }, api.ErrLong},
			{func(t *api.ScTruth) { t.Lots = nil }, api.ErrLong},
			{func(t *api.ScTruth) { t.Lots = t.Lots[:1] }, api.ErrLong},
			{func(t *api.ScTruth) { t.Lots = append(t.Lots, t.Lots[1]) }, api.ErrLong},
			{func(t *api.ScTruth) { t.Lots = slices.Repeat(t.Lots, 1000) }, api.ErrLong},
			{func(t *api.ScTruth) { t.Lots[0] = nil }, api.ErrLong},
			{func(t *api.ScTruth) { t.Lots[1] = t.Lots[1][:2] }, api.ErrLong},
			{func(t *api.ScTruth) { t.Lots[1] = append(t.Lots[1], 0) }, api.ErrLong},
			{func(t *api.ScTruth) { t.Lots[0] = make([]int, 1000) }, api.ErrLong},
			{func(t *api.ScTruth) { t.Back = append(t.Back, []int{0, 0, 0}) }, api.ErrLong},
			{func(t *api.ScTruth) { t.Back = append(t.Back, t.Lots[1]); t.Lots = t.Lots[:1] }, api.ErrLong},
			{func(t *api.ScTruth) { t.Back = append([][]int{t.Lots[1]}, t.Back...); t.Lots = t.Lots[:1] }, api.ErrLong},
			{func(t *api.ScTruth) { t.Added = nil }, api.ErrLong},
			{func(t *api.ScTruth) { t.Added = t.Added[:2] }, api.ErrLong},
			{func(t *api.ScTruth) { t.Added = append(t.Added, 0) }, api.ErrLong},
			{func(t *api.ScTruth) { t.Added = make([]int, 1000) }, api.ErrLong},
			// All of these come before a number that is not from its range.
			{func(t *api.ScTruth) { t.Lots[0][0], t.Added = -1, t.Added[:2] }, api.ErrLong},
			{func(t *api.ScTruth) { t.Lots[0][0], t.Lots[1] = -1, nil }, api.ErrLong},
			{func(t *api.ScTruth) { t.Lots[0][0], t.Back = -1, append(t.Back, nil) }, api.ErrLong},
			{func(t *api.ScTruth) { t.Lots[0][0] = -1 }, api.ErrRange},
			{func(t *api.ScTruth) { t.Lots[0], t.Lots[1] = t.Lots[1], t.Lots[0] }, api.ErrRange},
		} {
			g := good()
			g.l, g.batch, g.t = three, at, truthOf(at)
			c.change(&g.t)
			if a := ask(t, g); a != (answers{made: c.e}) {
				t.Errorf("%d, %d: %v, not %d", at, i, a, c.e)
			}
		}
		for i := range three[at].Back {
			for j, change := range []func(t *api.ScTruth){
				func(t *api.ScTruth) { t.Back = t.Back[:i] },
				func(t *api.ScTruth) { t.Back = nil },
				func(t *api.ScTruth) { t.Lots, t.Back = append(t.Lots, t.Back[0]), t.Back[1:] },
				func(t *api.ScTruth) { t.Back[i] = nil },
				func(t *api.ScTruth) { t.Back[i] = t.Back[i][:2] },
				func(t *api.ScTruth) { t.Back[i] = append(t.Back[i], 0) },
				func(t *api.ScTruth) { t.Back[i], t.Added[0] = make([]int, 6), -1 },
			} {
				g := good()
				g.l, g.batch, g.t = three, at, truthOf(at)
				change(&g.t)
				if a := ask(t, g); a != (answers{made: api.ErrLong}) {
					t.Errorf("%d, %d, %d: %v", at, i, j, a)
				}
			}
		}
	}
}

// P7.2: also a batch of which nothing is taken has a list in a truth, and one that is not in Back has none.
func TestATruthHasAListForEachNumber(t *testing.T) {
	g := good()
	g.l[1].Back[0] = 0
	g.batch, g.t = 1, api.ScTruth{Lots: g.t.Lots, Added: []int{0, 0, 0}}
	if a := ask(t, g); a.made != api.ErrLong {
		t.Errorf("%d", a.made)
	}
	g.t.Back = [][]int{{22000, 100, 0}}
	if got, e := scent.Made(g.s, g.l, 1, g.t); !slices.Equal(got, []int{0, 0, 500}) || e != api.OK {
		t.Errorf("Made = %v, %d", got, e)
	}
	// It is from its range, although it does not matter.
	g.t.Back = [][]int{{22000, 100, 63}}
	if a := ask(t, g); a.made != api.ErrRange {
		t.Errorf("%d", a.made)
	}
	g.l[1].Back = nil
	if a := ask(t, g); a.made != api.ErrLong {
		t.Errorf("%d", a.made)
	}
	g.t.Back = nil
	if got, e := scent.Made(g.s, g.l, 1, g.t); !slices.Equal(got, []int{0, 0, 500}) || e != api.OK {
		t.Errorf("Made = %v, %d", got, e)
	}
}

// P7.2: each number of a truth is of its own range.
func TestTheNumbersOfATruth(t *testing.T) {
	three := three()
	for at := range three {
		_, own, ranges := truthAt(example(), three, at)
		for i := range own {
			g := good()
			var numbers []*int
			g.l, g.batch = three, at
			g.t, numbers, _ = truthAt(g.s, three, at)
			for _, n := range []int{ranges[i].Lo, ranges[i].Hi, (ranges[i].Lo + ranges[i].Hi) / 2} {
				*numbers[i] = n
				if a := ask(t, g); a.made != api.OK {
					t.Errorf("%d, %d: %d: %d", at, i, n, a.made)
				}
			}
			for _, n := range outside(ranges[i].Lo, ranges[i].Hi) {
				*numbers[i] = n
				if a := ask(t, g); a != (answers{made: api.ErrRange}) {
					t.Errorf("%d, %d: %d: %v", at, i, n, a)
				}
			}
		}
	}
}

// P7.4: there is no such lot; this comes before that nothing can be taken.
func TestTheErrorOfTheIndexOfALot(t *testing.T) {
	for _, limit := range []int{0, 100} {
		for _, n := range append(outside(0, 1), 6, 3) {
			g := good()
			g.s.Things[2].Limit, g.lot = limit, n
			if a := ask(t, g); a != (answers{take: api.ErrNone}) {
				t.Errorf("%d: %v", n, a)
			}
		}
	}
	for n := range 2 {
		g := good()
		g.s.Things[2].Limit, g.lot = 0, n
		if a := ask(t, g); a != (answers{take: api.ErrDown}) {
			t.Errorf("%d: %v", n, a)
		}
	}
}

// P7.5: there is no such thing, or it is no dye, or no number of parts of a million shows.
func TestTheErrorsOfPale(t *testing.T) {
	for _, n := range append(outside(0, 2), 5, 6) {
		for _, shows := range []int{50, -1, 1000001} {
			g := good()
			g.dye, g.shows = n, shows
			if a := ask(t, g); a != (answers{pale: api.ErrNone}) {
				t.Errorf("%d: %v", n, a)
			}
		}
	}
	for _, n := range []int{0, 2} {
		for _, shows := range []int{50, -1, 1000001} {
			g := good()
			g.dye, g.shows = n, shows
			if a := ask(t, g); a != (answers{pale: api.ErrArg}) {
				t.Errorf("%d: %v", n, a)
			}
		}
	}
	for _, shows := range outside(0, 1000000) {
		g := good()
		g.shows = shows
		if a := ask(t, g); a != (answers{pale: api.ErrRange}) {
			t.Errorf("%d: %v", shows, a)
		}
	}
	for _, shows := range []int{0, 1, 999999, 1000000} {
		g := good()
		g.shows = shows
		if a := ask(t, g); a != (answers{}) {
			t.Errorf("%d: %v", shows, a)
		}
	}
}
