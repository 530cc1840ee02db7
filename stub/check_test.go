package stub_test

import (
	"math"
	"slices"
	"strings"
	"testing"

	"stearin/api"
	"stearin/stub"
)

// broken is the example line with a change, and what Check returns of it.
type broken struct {
	name     string
	change   func(l *api.StLine)
	part, at int
	e        api.Errno
}

// brokenLines are lines with errors, and ones at the limits, which have none.
func brokenLines() []broken {
	list := []broken{
		{"L", func(l *api.StLine) {}, 0, 0, api.OK},
		{"as much as there can be", func(l *api.StLine) { *l = full() }, 0, 0, api.OK},
		{"as little as there can be", func(l *api.StLine) { *l = line(0, step("a", 0, 0, 0)) }, 0, 0, api.OK},
		{"the zero value", func(l *api.StLine) { *l = api.StLine{} }, 2, 0, api.ErrLong},
		{"no steps", func(l *api.StLine) { l.Steps = nil }, 2, 0, api.ErrLong},
		{"one step", func(l *api.StLine) { l.Steps = l.Steps[:1] }, 0, 0, api.OK},
		{"a step too many", func(l *api.StLine) { l.Steps = append(full().Steps, step("g", 0, 0, 0)) }, 2, 0, api.ErrLong},
		{"a step too many, with errors", func(l *api.StLine) { l.Steps = make([]api.StStep, 7) }, 2, 0, api.ErrLong},
		{"far too many", func(l *api.StLine) { l.Steps = make([]api.StStep, 1000) }, 2, 0, api.ErrLong},
		{"as many as there can be, with errors", func(l *api.StLine) { l.Steps = make([]api.StStep, 6) }, 2, 0, api.ErrForm},
		{"the scales of sacks before no steps", func(l *api.StLine) { *l = line(-1) }, 1, 0, api.ErrRange},
		{"the scales of sacks before a step", func(l *api.StLine) { l.Err, l.Steps[0].Name = grams+1, "" }, 1, 0, api.ErrRange},
		{"the same name", func(l *api.StLine) { l.Steps[1].Name = "melt" }, 2, 1, api.ErrTwice},
		{"the same name, further behind", func(l *api.StLine) { l.Steps[2].Name = "melt" }, 2, 2, api.ErrTwice},
		{"the same name, and the last one", func(l *api.StLine) { l.Steps[2].Name = "strain" }, 2, 2, api.ErrTwice},
		{"the same name that is none", func(l *api.StLine) { l.Steps[0].Name, l.Steps[1].Name = "a-", "a-" }, 2, 0, api.ErrForm},
		{"the same name before a number", func(l *api.StLine) { l.Steps[1] = step("melt", -1, 0, -1) }, 2, 1, api.ErrTwice},
		{"the same name before an order", func(l *api.StLine) { l.Steps[1] = step("melt", 2, 1, 0) }, 2, 1, api.ErrTwice},
		{"a name before a number", func(l *api.StLine) { l.Steps[2] = step("Pour", -1, 0, -1) }, 2, 2, api.ErrForm},
		{"a name before an order", func(l *api.StLine) { l.Steps[2] = step("", 2, 1, 0) }, 2, 2, api.ErrForm},
		{"an end before the order", func(l *api.StLine) { l.Steps[0].Loss = span(grams+1, 0) }, 2, 0, api.ErrRange},
		{"the other end before the order", func(l *api.StLine) { l.Steps[1].Loss = span(0, -1) }, 2, 1, api.ErrRange},
		{"the scales before the order", func(l *api.StLine) { l.Steps[1] = step("b", 2, 1, -1) }, 2, 1, api.ErrRange},
		{"the order", func(l *api.StLine) { l.Steps[1].Loss = span(51, 50) }, 2, 1, api.ErrArg},
		{"the order of the last step", func(l *api.StLine) { l.Steps[2].Loss = span(grams, 0) }, 2, 2, api.ErrArg},
		{"one loss", func(l *api.StLine) { l.Steps[2].Loss = span(grams, grams) }, 0, 0, api.OK},
		{"the first step with an error, an order", func(l *api.StLine) { l.Steps[0].Loss, l.Steps[1].Name = span(1, 0), "" }, 2, 0, api.ErrArg},
		{"the first step with an error, a number", func(l *api.StLine) { l.Steps[1].Err, l.Steps[2].Name = -1, "melt" }, 2, 1, api.ErrRange},
		{"the first step with an error, a name", func(l *api.StLine) { l.Steps[1].Name, l.Steps[2].Name = "melt", "" }, 2, 1, api.ErrTwice},
	}
	return slices.Concat(list, brokenNames(), brokenNumbers())
}

// brokenNames are lines with names, and such as are none.
func brokenNames() []broken {
	var list []broken
	for i := range 3 {
		for _, name := range []string{"", "-", "a-", "-a", "a--b", "Melt", "melt it", "schmölz", "a1", "a\n", strings.Repeat("a", 21)} {
			list = append(list, broken{"a step without a name", func(l *api.StLine) { l.Steps[i].Name = name }, 2, i, api.ErrForm})
		}
		for _, name := range []string{"a", "z", "a-b", "a-b-c", "melt-it", strings.Repeat("z", 20)} {
			list = append(list, broken{"names", func(l *api.StLine) { l.Steps[i].Name = name }, 0, 0, api.OK})
		}
	}
	return list
}

// brokenNumbers are lines of which one number is not in its range, or at one of its ends.
func brokenNumbers() []broken {
	var list []broken
	add := func(name string, part, at int, number func(l *api.StLine) *int) {
		for _, n := range outside(0, grams) {
			list = append(list, broken{name, func(l *api.StLine) { *number(l) = n }, part, at, api.ErrRange})
		}
		for _, n := range []int{0, grams} {
			list = append(list, broken{name + ", at an end", func(l *api.StLine) { *number(l) = n }, 0, 0, api.OK})
		}
	}
	add("the scales of sacks", 1, 0, func(l *api.StLine) *int { return &l.Err })
	for i := range 3 {
		// The other end is as far away as it can be, so that the order is kept.
		add("a loss at least", 2, i, func(l *api.StLine) *int { own := &l.Steps[i].Loss; own.Hi = grams; return &own.Lo })
		add("a loss at most", 2, i, func(l *api.StLine) *int { own := &l.Steps[i].Loss; own.Lo = 0; return &own.Hi })
		add("the scales of a step", 2, i, func(l *api.StLine) *int { return &l.Steps[i].Err })
	}
	return list
}

// P8.1
func TestCheckNamesTheFirstError(t *testing.T) {
	for _, c := range brokenLines() {
		if part, at, e := stub.Check(with(c.change)); part != c.part || at != c.at || e != c.e {
			t.Errorf("%s: Check = %d, %d, %d, not %d, %d, %d", c.name, part, at, e, c.part, c.at, c.e)
		}
	}
}

// given are the arguments of all functions.
type given struct {
	l               api.StLine
	readings        []int
	from, to, point int
	s               api.StSort
	bags            []api.StBag
}

// good are arguments without an error, but that no scales cheat.
func good() given {
	return given{l: example(), readings: read(), from: 0, to: 3, point: 2, s: sort(150), bags: bags()}
}

// answers are the errors of all functions but Check.
type answers struct{ weights, lost, cheats, off, judge, best api.Errno }

// ofLine are answers in which all functions with a line return the same error, and the others none.
func ofLine(e api.Errno) answers { return answers{weights: e, lost: e, cheats: e, off: e} }

// ask calls all functions but Check, and reports an error that comes with another result.
func ask(t *testing.T, g given) answers {
	t.Helper()
	var a answers
	var weights []api.Span
	var lost, off api.Span
	var cheats, best []int
	var made int
	weights, a.weights = stub.Weights(g.l, g.readings)
	lost, a.lost = stub.Lost(g.l, g.readings, g.from, g.to)
	cheats, a.cheats = stub.Cheats(g.l, g.readings)
	off, a.off = stub.Off(g.l, g.readings, g.point)
	made, a.judge = stub.Judge(g.s, g.bags)
	best, a.best = stub.Best(g.s, g.bags)
	for i, c := range []struct {
		e    api.Errno
		zero bool
	}{
		{a.weights, len(weights) == 0},
		{a.lost, lost == api.Span{}},
		{a.cheats, len(cheats) == 0},
		{a.off, off == api.Span{}},
		{a.judge, made == 0},
		{a.best, len(best) == 0},
	} {
		if c.e != api.OK && !c.zero || c.e < api.OK || c.e > api.ErrDown {
			t.Fatalf("%v: the function %d returns the error %d and more", g, i, c.e)
		}
	}
	return a
}

// P8.2, P8.3: arguments without an error have none; without anything wrong nothing cheats.
func TestNoError(t *testing.T) {
	if a := ask(t, good()); a != (answers{cheats: api.ErrNone}) {
		t.Errorf("%v", a)
	}
}

// P8.1, P1: all functions with a line but Check return its error first, whatever else is wrong.
func TestTheErrorOfTheLineComesFirst(t *testing.T) {
	for _, c := range brokenLines() {
		if c.e == api.OK {
			continue
		}
		for _, g := range []given{
			good(),
			{from: -1, to: -1, point: -1, s: sort(150)},
			{readings: []int{0, 0, 0, -2}, from: 3, to: 3, point: 4, s: sort(150)},
			{readings: unread(7), from: 0, to: 7, point: 1, s: sort(150)},
			{readings: []int{0, grams, 0, grams}, to: 1, s: sort(150)},
		} {
			g.l = with(c.change)
			if a := ask(t, g); a != ofLine(c.e) {
				t.Errorf("%s: %v, not %d", c.name, a, c.e)
			}
		}
	}
}

// P8.2, P8.3: then comes the error of readings: there is one for each point.
func TestThereIsAReadingForEachPoint(t *testing.T) {
	for steps := 1; steps <= 6; steps++ {
		l := full()
		l.Steps = l.Steps[:steps]
		for many := range 12 {
			for _, readings := range [][]int{make([]int, many), unread(many), slices.Repeat([]int{-2}, many), slices.Repeat([]int{grams + 1}, many)} {
				for _, points := range [][]int{{0, 1, 0}, {-1, 0, -1}, {1, 1, 12}, {math.MaxInt, math.MinInt, math.MaxInt}} {
					a := ask(t, given{l: l, readings: readings, from: points[0], to: points[1], point: points[2], s: sort(150)})
					if many != steps+1 && a != ofLine(api.ErrLong) {
						t.Errorf("%d steps, %v: %v", steps, readings, a)
					}
					if many == steps+1 && (a.weights == api.ErrLong || a.lost == api.ErrLong || a.cheats == api.ErrLong || a.off == api.ErrLong) {
						t.Errorf("%d steps, %v: %v", steps, readings, a)
					}
				}
			}
		}
	}
	if a := ask(t, given{l: example(), s: sort(150)}); a != ofLine(api.ErrLong) {
		t.Errorf("%v", a)
	}
}

// P8.2, P8.3: a reading is a weight, or none.
func TestTheRangeOfAReading(t *testing.T) {
	for point := range 4 {
		for _, n := range append(outside(-1, grams), -3) {
			for _, points := range [][]int{{0, 3, point}, {-1, 0, -1}, {1, 1, 4}, {3, 2, 1}} {
				for _, readings := range [][]int{read(), unread(4), {0, grams, 0, grams}} {
					g := good()
					g.readings, g.from, g.to, g.point = readings, points[0], points[1], points[2]
					g.readings[point] = n
					if a := ask(t, g); a != ofLine(api.ErrRange) {
						t.Errorf("%v: %v", g.readings, a)
					}
				}
			}
		}
		for _, n := range []int{none, 0, grams} {
			g := good()
			g.l = with(func(l *api.StLine) {
				l.Err = grams
				for i := range l.Steps {
					l.Steps[i].Err = grams
				}
			})
			g.readings[point] = n
			g.point = slices.IndexFunc(g.readings, func(r int) bool { return r != none })
			if a := ask(t, g); a != (answers{cheats: api.ErrNone}) {
				t.Errorf("%v: %v", g.readings, a)
			}
		}
	}
}

// P8.2: from and to are points, and the first one is before the second one.
func TestTheErrorOfTheTwoPoints(t *testing.T) {
	for _, readings := range [][]int{read(), unread(4), {0, grams, 0, grams}} {
		for _, from := range append(outside(0, 3), 0, 1, 2, 3, 7) {
			for _, to := range append(outside(0, 3), 0, 1, 2, 3, 7) {
				g := good()
				g.readings, g.from, g.to = readings, from, to
				a := ask(t, g)
				known := 0 <= from && from <= 3 && 0 <= to && to <= 3 && from < to
				switch {
				case !known && a.lost != api.ErrNone:
					t.Errorf("%v, %d, %d: %d", readings, from, to, a.lost)
				case known && a.lost != a.weights:
					t.Errorf("%v, %d, %d: %d, not %d", readings, from, to, a.lost, a.weights)
				}
			}
		}
	}
	// The points are those of this line.
	l := full()
	for steps := 1; steps <= 6; steps++ {
		l.Steps = full().Steps[:steps]
		for to := 1; to <= 7; to++ {
			g := given{l: l, readings: unread(steps + 1), from: to - 1, to: to, s: sort(150)}
			if a := ask(t, g); (a.lost == api.OK) != (to <= steps) || a.lost != api.OK && a.lost != api.ErrNone {
				t.Errorf("%d steps, %d: %d", steps, to, a.lost)
			}
		}
	}
}

// P8.3: there is no such point, or it has no reading; this comes before that there is no truth.
func TestTheErrorOfThePoint(t *testing.T) {
	for _, readings := range [][]int{read(), unread(4), {none, 5, grams, none}, {0, none, none, grams}} {
		for _, point := range append(outside(0, 3), 0, 1, 2, 3, 4, 6, 7) {
			g := good()
			g.readings, g.point = readings, point
			a := ask(t, g)
			if known := 0 <= point && point <= 3 && readings[point] != none; known == (a.off == api.ErrNone) {
				t.Errorf("%v, %d: %d", readings, point, a.off)
			}
		}
	}
}

// P8.2, P8.3: if there is no truth, whichever one of the readings is left out.
func TestThereIsNoTruth(t *testing.T) {
	for i, c := range []struct {
		l        api.StLine
		readings []int
	}{
		{example(), []int{0, grams, 0, grams}},
		{example(), []int{100, 1000, 10000, 100000}},
		// More is lost than there can be, whatever is read.
		{line(grams, step("a", 600000, grams, grams), step("b", 400001, grams, grams)), unread(3)},
		{line(grams, step("a", 600000, grams, grams), step("b", 400001, grams, grams)), []int{grams, none, 0}},
		// A reading is above all weights that there can be, and another one below.
		{line(0, step("a", 0, 0, 0), step("b", 0, 0, 0)), []int{1, 2, 3}},
	} {
		g := given{l: c.l, readings: c.readings, to: 1, s: sort(150)}
		want := ofLine(api.ErrDown)
		if c.readings[0] == none {
			want.off = api.ErrNone
		}
		if a := ask(t, g); a != want {
			t.Errorf("%d: %v, not %v", i, a, want)
		}
	}
	// As much is lost as there can be.
	got, e := stub.Weights(line(0, step("a", 600000, grams, 0), step("b", 400000, grams, 0)), unread(3))
	if !slices.Equal(got, []api.Span{span(grams, grams), span(400000, 400000), span(0, 0)}) || e != api.OK {
		t.Errorf("Weights = %v, %d", got, e)
	}
}

// brokenBag is a sort and bags with a change, and their error.
type brokenBag struct {
	name   string
	change func(s *api.StSort, bags *[]api.StBag)
	e      api.Errno
}

// brokenBags are sorts and bags with errors, and ones at the limits, which have none.
func brokenBags() []brokenBag {
	type sort = api.StSort
	type bags = []api.StBag
	list := []brokenBag{
		{"S", func(s *sort, b *bags) {}, api.OK},
		{"no bags", func(s *sort, b *bags) { *b = nil }, api.OK},
		{"as much as there can be", func(s *sort, b *bags) {
			*s, *b = sort{Kinds: 255, Foreign: 1000}, slices.Repeat(bags{bag(0, grams, 255)}, 10)
		}, api.OK},
		{"the zero value of the sort", func(s *sort, b *bags) { *s = sort{} }, api.ErrRange},
		{"the zero value of a bag", func(s *sort, b *bags) { (*b)[2] = api.StBag{} }, api.ErrRange},
		{"a bag too many", func(s *sort, b *bags) { *b = slices.Repeat(bags{bag(0, 0, 1)}, 11) }, api.ErrLong},
		{"far too many, with errors", func(s *sort, b *bags) { *b = make(bags, 1000) }, api.ErrLong},
		{"as many as there can be, with errors", func(s *sort, b *bags) { *b = make(bags, 10) }, api.ErrRange},
		{"the kinds before too many", func(s *sort, b *bags) { s.Kinds, *b = 0, make(bags, 11) }, api.ErrRange},
		{"foreign before too many", func(s *sort, b *bags) { s.Foreign, *b = 1001, make(bags, 11) }, api.ErrRange},
		{"the kinds before a bag", func(s *sort, b *bags) { s.Kinds, (*b)[0].Grams = 256, span(2, 1) }, api.ErrRange},
		{"foreign before a bag", func(s *sort, b *bags) { s.Foreign, (*b)[0].Grams = -1, span(2, 1) }, api.ErrRange},
		{"too many before a bag", func(s *sort, b *bags) { *b = slices.Repeat(bags{bag(2, 1, 1)}, 11) }, api.ErrLong},
		{"the order", func(s *sort, b *bags) { (*b)[0].Grams = span(521, 520) }, api.ErrArg},
		{"the order from end to end", func(s *sort, b *bags) { (*b)[2].Grams = span(grams, 0) }, api.ErrArg},
		{"the last of as many as there can be", func(s *sort, b *bags) { *b = append(slices.Repeat(bags{bag(0, 0, 1)}, 9), bag(1, 0, 1)) }, api.ErrArg},
		{"one weight", func(s *sort, b *bags) { (*b)[0].Grams, (*b)[1].Grams = span(grams, grams), span(0, 0) }, api.OK},
		{"an end before the order", func(s *sort, b *bags) { (*b)[1].Grams = span(grams+1, 0) }, api.ErrRange},
		{"the other end before the order", func(s *sort, b *bags) { (*b)[1].Grams = span(0, -1) }, api.ErrRange},
		{"no kinds before the order", func(s *sort, b *bags) { (*b)[1] = bag(2, 1, 0) }, api.ErrRange},
		{"too many kinds before the order", func(s *sort, b *bags) { (*b)[1] = bag(2, 1, 256) }, api.ErrRange},
		{"the first bag with an error, an order", func(s *sort, b *bags) { (*b)[0].Grams, (*b)[1].Kinds = span(2, 1), 0 }, api.ErrArg},
		{"the first bag with an error, kinds", func(s *sort, b *bags) { (*b)[1].Kinds, (*b)[2].Grams = 0, span(2, 1) }, api.ErrRange},
		{"the first bag with an error, an end", func(s *sort, b *bags) { (*b)[1].Grams.Lo, (*b)[2].Grams = -1, span(2, 1) }, api.ErrRange},
	}
	return append(list, brokenBagNumbers()...)
}

// brokenBagNumbers are sorts and bags of which one number is not in its range, or at one of its ends.
func brokenBagNumbers() []brokenBag {
	var list []brokenBag
	add := func(name string, least, most int, number func(s *api.StSort, b []api.StBag) *int) {
		for _, n := range outside(least, most) {
			list = append(list, brokenBag{name, func(s *api.StSort, b *[]api.StBag) { *number(s, *b) = n }, api.ErrRange})
		}
		for _, n := range []int{least, most} {
			list = append(list, brokenBag{name + ", at an end", func(s *api.StSort, b *[]api.StBag) { *number(s, *b) = n }, api.OK})
		}
	}
	add("the kinds of the sort", 1, 255, func(s *api.StSort, b []api.StBag) *int { return &s.Kinds })
	add("foreign", 0, 1000, func(s *api.StSort, b []api.StBag) *int { return &s.Foreign })
	for i := range 3 {
		// The other end is as far away as it can be, so that the order is kept.
		add("grams at least", 0, grams, func(s *api.StSort, b []api.StBag) *int { own := &b[i].Grams; own.Hi = grams; return &own.Lo })
		add("grams at most", 0, grams, func(s *api.StSort, b []api.StBag) *int { own := &b[i].Grams; own.Lo = 0; return &own.Hi })
		add("the kinds of a bag", 1, 255, func(s *api.StSort, b []api.StBag) *int { return &b[i].Kinds })
	}
	return list
}

// P8.4, P1: the errors of a sort and of bags, in their order.
func TestTheErrorsOfBags(t *testing.T) {
	for _, c := range brokenBags() {
		g := good()
		c.change(&g.s, &g.bags)
		if a := ask(t, g); a.judge != c.e || a.best != c.e || a.weights != api.OK {
			t.Errorf("%s: %v, not %d", c.name, a, c.e)
		}
	}
}
