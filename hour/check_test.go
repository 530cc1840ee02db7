package hour_test

import (
	"math"
	"reflect"
	"slices"
	"strings"
	"testing"

	"stearin/api"
	"stearin/hour"
)

// broken is the shop with three kinds and three rules with a change, and what Check returns of it.
type broken struct {
	name     string
	change   func(s *api.HrShop)
	part, at int
	e        api.Errno
}

// brokenShops are shops with errors, and ones at the limits, which have none.
func brokenShops() []broken {
	list := []broken{
		{"three of both", func(s *api.HrShop) {}, 0, 0, api.OK},
		{"S", func(s *api.HrShop) { *s = example() }, 0, 0, api.OK},
		{"as much as there can be", func(s *api.HrShop) { *s = full() }, 0, 0, api.OK},
		{"as little as there can be", func(s *api.HrShop) { *s = api.HrShop{Kinds: []api.HrKind{kind("a", 1, 1, 0)}} }, 0, 0, api.OK},
		{"the zero value", func(s *api.HrShop) { *s = api.HrShop{} }, 1, 0, api.ErrLong},
		{"no kinds", func(s *api.HrShop) { s.Kinds = nil }, 1, 0, api.ErrLong},
		{"a kind too many", func(s *api.HrShop) { s.Kinds = append(full().Kinds, kind("g", 1, 1, 0)) }, 1, 0, api.ErrLong},
		{"a kind too many, with errors", func(s *api.HrShop) { s.Kinds = make([]api.HrKind, 7) }, 1, 0, api.ErrLong},
		{"as many kinds as there can be, with errors", func(s *api.HrShop) { s.Kinds = make([]api.HrKind, 6) }, 2, 0, api.ErrForm},
		{"no rules", func(s *api.HrShop) { s.Rules = nil }, 0, 0, api.OK},
		{"a rule too many", func(s *api.HrShop) { s.Rules = append(full().Rules, rule("g", span(0, 0), span(0, 0))) }, 1, 0, api.ErrLong},
		{"a rule too many, with errors", func(s *api.HrShop) { s.Rules = make([]api.HrRule, 7) }, 1, 0, api.ErrLong},
		{"as many rules as there can be, with errors", func(s *api.HrShop) { s.Rules = make([]api.HrRule, 6) }, 3, 0, api.ErrForm},
		{"far too many rules", func(s *api.HrShop) { s.Rules = make([]api.HrRule, 1000) }, 1, 0, api.ErrLong},
		{"no kinds before the margin", func(s *api.HrShop) { s.Kinds, s.Margin = nil, -1 }, 1, 0, api.ErrLong},
		{"too many rules before the margin", func(s *api.HrShop) { s.Rules, s.Margin = make([]api.HrRule, 7), 501 }, 1, 0, api.ErrLong},
		{"too many rules before a kind", func(s *api.HrShop) { s.Rules, s.Kinds[0].Name = make([]api.HrRule, 7), "" }, 1, 0, api.ErrLong},
		{"the margin before a kind", func(s *api.HrShop) { s.Margin, s.Kinds[0].Name = -1, "" }, 1, 0, api.ErrRange},
		{"the margin before a rule", func(s *api.HrShop) { s.Margin, s.Rules[0].Name = 501, "" }, 1, 0, api.ErrRange},
		{"a kind before a rule", func(s *api.HrShop) { s.Kinds[2].Rest, s.Rules[0].Name = 5000, "" }, 2, 2, api.ErrArg},
	}
	return slices.Concat(list, brokenKinds(), brokenRules(), brokenNames(), brokenNumbers())
}

// brokenKinds are shops of which a kind has an error, or nearly so.
func brokenKinds() []broken {
	return []broken{
		{"the same name", func(s *api.HrShop) { s.Kinds[1].Name = "altar" }, 2, 1, api.ErrTwice},
		{"the same name, further behind", func(s *api.HrShop) { s.Kinds[2].Name = "altar" }, 2, 2, api.ErrTwice},
		{"the same name, and the last one", func(s *api.HrShop) { s.Kinds[2].Name = "lamp" }, 2, 2, api.ErrTwice},
		{"the same name that is none", func(s *api.HrShop) { s.Kinds[0].Name, s.Kinds[1].Name = "a-", "a-" }, 2, 0, api.ErrForm},
		{"the same name before a number", func(s *api.HrShop) { s.Kinds[1] = kind("altar", 0, 1, -1) }, 2, 1, api.ErrTwice},
		{"the same name before an order", func(s *api.HrShop) { s.Kinds[1] = kind("altar", 2, 1, 3) }, 2, 1, api.ErrTwice},
		{"a name before a number", func(s *api.HrShop) { s.Kinds[2] = kind("Lamp", 0, 1, -1) }, 2, 2, api.ErrForm},
		{"a name before an order", func(s *api.HrShop) { s.Kinds[2] = kind("", 2, 1, 3) }, 2, 2, api.ErrForm},
		{"an end before the order", func(s *api.HrShop) { s.Kinds[0] = kind("a", heaviest+1, 5, 0) }, 2, 0, api.ErrRange},
		{"the other end before the order", func(s *api.HrShop) { s.Kinds[0] = kind("a", 5, 0, 0) }, 2, 0, api.ErrRange},
		{"an end before what is left", func(s *api.HrShop) { s.Kinds[0] = kind("a", 5, heaviest+1, 5) }, 2, 0, api.ErrRange},
		{"what is left before the order", func(s *api.HrShop) { s.Kinds[1] = kind("a", 2, 1, -1) }, 2, 1, api.ErrRange},
		{"far too much is left", func(s *api.HrShop) { s.Kinds[1] = kind("a", 2, 1, heaviest+1) }, 2, 1, api.ErrRange},
		{"nothing, of which nothing is left", func(s *api.HrShop) { s.Kinds[0] = kind("a", 0, 0, 0) }, 2, 0, api.ErrRange},
		{"the order", func(s *api.HrShop) { s.Kinds[1].Weight = span(61, 60) }, 2, 1, api.ErrArg},
		{"the order of the last kind", func(s *api.HrShop) { s.Kinds[2].Weight = span(heaviest, 1) }, 2, 2, api.ErrArg},
		{"one weight", func(s *api.HrShop) { s.Kinds[2].Weight = span(heaviest, heaviest) }, 0, 0, api.OK},
		{"all is left", func(s *api.HrShop) { s.Kinds[1].Rest = 50 }, 2, 1, api.ErrArg},
		{"all but a milligram is left", func(s *api.HrShop) { s.Kinds[1].Rest = 49 }, 0, 0, api.OK},
		{"more than all is left", func(s *api.HrShop) { s.Kinds[1].Rest = 55 }, 2, 1, api.ErrArg},
		{"as much is left as there can be", func(s *api.HrShop) { s.Kinds[1] = kind("a", heaviest, heaviest, heaviest) }, 2, 1, api.ErrArg},
		{"as little is left as there can be", func(s *api.HrShop) { s.Kinds[1] = kind("a", 1, 1, 0) }, 0, 0, api.OK},
		{"the only milligram is left", func(s *api.HrShop) { s.Kinds[1] = kind("a", 1, 1, 1) }, 2, 1, api.ErrArg},
		{"the first kind with an error, an order", func(s *api.HrShop) { s.Kinds[0].Rest, s.Kinds[1].Name = 100000, "" }, 2, 0, api.ErrArg},
		{"the first kind with an error, a number", func(s *api.HrShop) { s.Kinds[1].Rest, s.Kinds[2].Name = -1, "lamp" }, 2, 1, api.ErrRange},
		{"the first kind with an error, a name", func(s *api.HrShop) { s.Kinds[1].Name, s.Kinds[2].Name = "altar", "" }, 2, 1, api.ErrTwice},
	}
}

// brokenRules are shops of which a rule has an error, or nearly so.
func brokenRules() []broken {
	return []broken{
		{"the same name as a kind", func(s *api.HrShop) { s.Rules[0].Name = "altar" }, 0, 0, api.OK},
		{"the same name", func(s *api.HrShop) { s.Rules[1].Name = "church" }, 3, 1, api.ErrTwice},
		{"the same name, further behind", func(s *api.HrShop) { s.Rules[2].Name = "church" }, 3, 2, api.ErrTwice},
		{"the same name, and the last one", func(s *api.HrShop) { s.Rules[2].Name = "lamp" }, 3, 2, api.ErrTwice},
		{"the same name that is none", func(s *api.HrShop) { s.Rules[0].Name, s.Rules[1].Name = "a-", "a-" }, 3, 0, api.ErrForm},
		{"the same name before a number", func(s *api.HrShop) { s.Rules[1] = rule("church", span(-1, 1), span(0, 0)) }, 3, 1, api.ErrTwice},
		{"the same name before an order", func(s *api.HrShop) { s.Rules[1] = rule("church", span(2, 1), span(0, 0)) }, 3, 1, api.ErrTwice},
		{"a name before a number", func(s *api.HrShop) { s.Rules[2] = rule("Lamp", span(0, 0), span(0, -1)) }, 3, 2, api.ErrForm},
		{"a name before an order", func(s *api.HrShop) { s.Rules[2] = rule("", span(0, 0), span(2, 1)) }, 3, 2, api.ErrForm},
		{"minutes before their order", func(s *api.HrShop) { s.Rules[0].Minutes = span(longest+1, 5) }, 3, 0, api.ErrRange},
		{"minutes before their order, the other end", func(s *api.HrShop) { s.Rules[0].Minutes = span(5, -1) }, 3, 0, api.ErrRange},
		{"weights before their order", func(s *api.HrShop) { s.Rules[0].Weight = span(heaviest+1, 5) }, 3, 0, api.ErrRange},
		{"weights before their order, the other end", func(s *api.HrShop) { s.Rules[0].Weight = span(5, -1) }, 3, 0, api.ErrRange},
		{"weights before the order of minutes", func(s *api.HrShop) { s.Rules[1] = rule("a", span(2, 1), span(0, -1)) }, 3, 1, api.ErrRange},
		{"minutes before the order of weights", func(s *api.HrShop) { s.Rules[1] = rule("a", span(0, longest+1), span(2, 1)) }, 3, 1, api.ErrRange},
		{"the order of minutes", func(s *api.HrShop) { s.Rules[1].Minutes = span(2001, 2000) }, 3, 1, api.ErrArg},
		{"the order of weights", func(s *api.HrShop) { s.Rules[2].Weight = span(2, 1) }, 3, 2, api.ErrArg},
		{"one minute", func(s *api.HrShop) { s.Rules[2].Minutes = span(longest, longest) }, 0, 0, api.OK},
		{"one weight", func(s *api.HrShop) { s.Rules[2].Weight = span(heaviest, heaviest) }, 0, 0, api.OK},
		{"nothing, in no time", func(s *api.HrShop) { s.Rules[2] = rule("a", span(0, 0), span(0, 0)) }, 0, 0, api.OK},
		{"the first rule with an error, an order", func(s *api.HrShop) { s.Rules[0].Minutes, s.Rules[1].Name = span(1, 0), "" }, 3, 0, api.ErrArg},
		{"the first rule with an error, a number", func(s *api.HrShop) { s.Rules[1].Weight, s.Rules[2].Name = span(-1, 0), "lamp" }, 3, 1, api.ErrRange},
		{"the first rule with an error, a name", func(s *api.HrShop) { s.Rules[1].Name, s.Rules[2].Name = "church", "" }, 3, 1, api.ErrTwice},
	}
}

// brokenNames are shops with names, and such as are none.
func brokenNames() []broken {
	var list []broken
	for i := range 3 {
		for _, name := range []string{"", "-", "a-", "-a", "a--b", "Altar", "altar it", "kerzé", "a1", "a\n", strings.Repeat("a", 21)} {
			list = append(list, broken{"a kind without a name", func(s *api.HrShop) { s.Kinds[i].Name = name }, 2, i, api.ErrForm})
			list = append(list, broken{"a rule without a name", func(s *api.HrShop) { s.Rules[i].Name = name }, 3, i, api.ErrForm})
		}
		for _, name := range []string{"a", "z", "a-b", "a-b-c", "test", strings.Repeat("z", 20)} {
			list = append(list, broken{"names", func(s *api.HrShop) { s.Kinds[i].Name, s.Rules[i].Name = name, name }, 0, 0, api.OK})
		}
	}
	return list
}

// brokenNumbers are shops of which one number is not in its range, or at one of its ends.
func brokenNumbers() []broken {
	var list []broken
	add := func(name string, part, at, least, most int, number func(s *api.HrShop) *int) {
		for _, n := range outside(least, most) {
			list = append(list, broken{name, func(s *api.HrShop) { *number(s) = n }, part, at, api.ErrRange})
		}
		for _, n := range []int{least, most} {
			list = append(list, broken{name + ", at an end", func(s *api.HrShop) { *number(s) = n }, 0, 0, api.OK})
		}
	}
	add("the margin", 1, 0, 0, 500, func(s *api.HrShop) *int { return &s.Margin })
	for i := range 3 {
		// The other numbers are as far away as they can be, so that the order is kept.
		add("a kind at least", 2, i, 1, heaviest, func(s *api.HrShop) *int {
			own := &s.Kinds[i]
			*own = kind(own.Name, 0, heaviest, 0)
			return &own.Weight.Lo
		})
		add("a kind at most", 2, i, 1, heaviest, func(s *api.HrShop) *int {
			own := &s.Kinds[i]
			*own = kind(own.Name, 1, 0, 0)
			return &own.Weight.Hi
		})
		add("minutes at least", 3, i, 0, longest, func(s *api.HrShop) *int { own := &s.Rules[i].Minutes; own.Hi = longest; return &own.Lo })
		add("minutes at most", 3, i, 0, longest, func(s *api.HrShop) *int { own := &s.Rules[i].Minutes; own.Lo = 0; return &own.Hi })
		add("weights at least", 3, i, 0, heaviest, func(s *api.HrShop) *int { own := &s.Rules[i].Weight; own.Hi = heaviest; return &own.Lo })
		add("weights at most", 3, i, 0, heaviest, func(s *api.HrShop) *int { own := &s.Rules[i].Weight; own.Lo = 0; return &own.Hi })
		for _, n := range outside(0, heaviest) {
			list = append(list, broken{"what is left", func(s *api.HrShop) { s.Kinds[i].Rest = n }, 2, i, api.ErrRange})
		}
		for _, n := range []int{0, heaviest - 1} {
			list = append(list, broken{"what is left, at an end", func(s *api.HrShop) { s.Kinds[i] = kind("a", heaviest, heaviest, n) }, 0, 0, api.OK})
		}
	}
	return list
}

// P9.1
func TestCheckNamesTheFirstError(t *testing.T) {
	for _, c := range brokenShops() {
		if part, at, e := hour.Check(with(c.change)); part != c.part || at != c.at || e != c.e {
			t.Errorf("%s: Check = %d, %d, %d, not %d, %d, %d", c.name, part, at, e, c.part, c.at, c.e)
		}
	}
}

// given are the arguments of all functions.
type given struct {
	s          api.HrShop
	t          api.HrTest
	l          []api.HrTest
	kind, rule int
	boxes      []api.HrBox
	text       string
}

// goodText is the text of the test T of the chapter.
const goodText = "test altar 50\n0 100500\n60 96500\n120 92400\n"

// good are arguments without an error.
func good() given {
	return given{s: works(), t: exampleT(), l: []api.HrTest{exampleT(), exampleU()}, boxes: []api.HrBox{{Hours: 21}, {Hours: 22}, {Hours: 20}}, text: goodText}
}

// changed are good arguments with a change.
func changed(change func(g *given)) given {
	g := good()
	change(&g)
	return g
}

// answers are the errors of all functions but Check.
type answers struct{ rate, odd, rates, minutes, promise, fits, broken, write, read api.Errno }

// ofTest are answers in which all functions with a test return the same error, and the others none.
func ofTest(e api.Errno) answers { return answers{rate: e, odd: e, write: e} }

// ofKind are answers in which all functions with a kind return the same error, and the others none.
func ofKind(e api.Errno) answers { return answers{rates: e, minutes: e, promise: e, fits: e} }

// ofTests are answers in which all functions with tests return the same error, and the others none.
func ofTests(e api.Errno) answers {
	a := ofKind(e)
	a.broken = e
	return a
}

// ofShop are answers in which all functions return the same error.
func ofShop(e api.Errno) answers { return answers{e, e, e, e, e, e, e, e, e} }

// ask calls all functions but Check, and reports an error that comes with another result.
func ask(t *testing.T, g given) answers {
	t.Helper()
	var a answers
	var rate, rates, minutes api.Span
	var odd, broken []int
	var promise, fits int
	var text string
	var test api.HrTest
	rate, a.rate = hour.Rate(g.s, g.t)
	odd, a.odd = hour.Odd(g.s, g.t)
	rates, a.rates = hour.Rates(g.s, g.l, g.kind)
	minutes, a.minutes = hour.Minutes(g.s, g.l, g.kind)
	promise, a.promise = hour.Promise(g.s, g.l, g.kind)
	fits, a.fits = hour.Fits(g.s, g.l, g.kind, g.rule)
	broken, a.broken = hour.Broken(g.s, g.l, g.boxes)
	text, a.write = hour.Write(g.s, g.t)
	test, a.read = hour.Read(g.s, g.text)
	for i, c := range []struct {
		e    api.Errno
		zero bool
	}{
		{a.rate, rate == api.Span{}},
		{a.odd, len(odd) == 0},
		{a.rates, rates == api.Span{}},
		{a.minutes, minutes == api.Span{}},
		{a.promise, promise == 0},
		{a.fits, fits == 0},
		{a.broken, len(broken) == 0},
		{a.write, text == ""},
		{a.read, reflect.DeepEqual(test, api.HrTest{})},
	} {
		if c.e != api.OK && !c.zero || c.e < api.OK || c.e > api.ErrDown {
			t.Fatalf("%v: the function %d returns the error %d and more", g, i, c.e)
		}
	}
	return a
}

// P9.2, P9.3, P9.4, P9.5, P9.6: arguments without an error have none.
func TestNoError(t *testing.T) {
	if a := ask(t, good()); a != (answers{}) {
		t.Errorf("%v", a)
	}
}

// wrongs are arguments with all errors but those of the shop.
func wrongs() []given {
	return []given{
		good(),
		{t: api.HrTest{Kind: -1}, l: make([]api.HrTest, 9), kind: -1, rule: -1, boxes: make([]api.HrBox, 21), text: strings.Repeat("a", 301)},
		{t: api.HrTest{}, l: []api.HrTest{{}}, kind: 3, rule: 3, boxes: []api.HrBox{{Kind: 3}}, text: ""},
		{t: burnt(-1, mark(1, -1), mark(0, 0)), l: []api.HrTest{burnt(-1, mark(1, -1), mark(0, 0))}, boxes: []api.HrBox{{Hours: -1}}, text: goodText},
		{t: exampleU(), l: []api.HrTest{exampleU()}, rule: 7, boxes: []api.HrBox{{Hours: 1}}, text: goodText},
		{t: lost(0), l: []api.HrTest{lost(0)}, rule: -7, boxes: []api.HrBox{{Hours: 1}}, text: goodText},
	}
}

// P9.1, P1: all functions but Check return its error first, whatever else is wrong.
func TestTheErrorOfTheShopComesFirst(t *testing.T) {
	for _, c := range brokenShops() {
		for _, g := range wrongs() {
			if g.s = with(c.change); c.e == api.OK {
				continue
			}
			if a := ask(t, g); a != ofShop(c.e) {
				t.Errorf("%s: %v, not %d", c.name, a, c.e)
			}
		}
	}
}

// brokenTest is the test T with a change, and its error.
type brokenTest struct {
	name   string
	change func(t *api.HrTest)
	e      api.Errno
}

// marks are so many marks without an error.
func marks(many int) []api.HrMark {
	var list []api.HrMark
	for i := range many {
		list = append(list, mark(i, many-i))
	}
	return list
}

// brokenTests are tests with errors, and ones at the limits, which have none.
func brokenTests() []brokenTest {
	list := []brokenTest{
		{"T", func(t *api.HrTest) {}, api.OK},
		{"another kind", func(t *api.HrTest) { t.Kind = 2 }, api.OK},
		{"the zero value", func(t *api.HrTest) { *t = api.HrTest{} }, api.ErrLong},
		{"no marks", func(t *api.HrTest) { t.Marks = nil }, api.ErrLong},
		{"one mark", func(t *api.HrTest) { t.Marks = t.Marks[:1] }, api.ErrLong},
		{"two marks", func(t *api.HrTest) { t.Marks = t.Marks[:2] }, api.OK},
		{"ten marks", func(t *api.HrTest) { t.Marks = marks(10) }, api.OK},
		{"eleven marks", func(t *api.HrTest) { t.Marks = marks(11) }, api.ErrLong},
		{"far too many marks", func(t *api.HrTest) { t.Marks = make([]api.HrMark, 1000) }, api.ErrLong},
		{"no kind before marks", func(t *api.HrTest) { *t = api.HrTest{Kind: -1, Error: -1} }, api.ErrNone},
		{"no kind before a number", func(t *api.HrTest) { t.Kind, t.Error = 3, -1 }, api.ErrNone},
		{"no kind before the order", func(t *api.HrTest) { t.Kind, t.Marks[1].Minute = 3, 0 }, api.ErrNone},
		{"marks before a number", func(t *api.HrTest) { t.Error, t.Marks = -1, nil }, api.ErrLong},
		{"marks before a minute", func(t *api.HrTest) { t.Marks = []api.HrMark{{Minute: -1}} }, api.ErrLong},
		{"marks before the order", func(t *api.HrTest) { t.Marks = make([]api.HrMark, 11) }, api.ErrLong},
		{"as many marks as there can be, all alike", func(t *api.HrTest) { t.Marks = make([]api.HrMark, 10) }, api.ErrArg},
		{"the error before the order", func(t *api.HrTest) { t.Error, t.Marks[1].Minute = -1, 0 }, api.ErrRange},
		{"a minute before the order of others", func(t *api.HrTest) { t.Marks[1].Minute, t.Marks[2].Minute = 0, longest+1 }, api.ErrRange},
		{"a minute before its own order", func(t *api.HrTest) { t.Marks[1].Minute = -1 }, api.ErrRange},
		{"a weight before the order of others", func(t *api.HrTest) { t.Marks[1].Minute, t.Marks[2].Weight = 0, -1 }, api.ErrRange},
		{"the same minute", func(t *api.HrTest) { t.Marks[1].Minute = 0 }, api.ErrArg},
		{"the same minute, further behind", func(t *api.HrTest) { t.Marks[2].Minute = 0 }, api.ErrArg},
		{"the same minute in the end", func(t *api.HrTest) { t.Marks[2].Minute = 60 }, api.ErrArg},
		{"a minute less", func(t *api.HrTest) { t.Marks[2].Minute = 59 }, api.ErrArg},
		{"a minute more", func(t *api.HrTest) { t.Marks[2].Minute = 61 }, api.OK},
		{"the last minutes", func(t *api.HrTest) { t.Marks = []api.HrMark{mark(longest-1, 0), mark(longest, 0)} }, api.OK},
		{"twice the last minute", func(t *api.HrTest) { t.Marks = []api.HrMark{mark(longest, 0), mark(longest, 0)} }, api.ErrArg},
		{"heavier than before", func(t *api.HrTest) { t.Marks[0].Weight, t.Marks[2].Weight = 0, heaviest }, api.OK},
	}
	add := func(name string, least, most int, e api.Errno, number func(t *api.HrTest) *int) {
		for _, n := range outside(least, most) {
			list = append(list, brokenTest{name, func(t *api.HrTest) { *number(t) = n }, e})
		}
		for _, n := range []int{least, most} {
			list = append(list, brokenTest{name + ", at an end", func(t *api.HrTest) { *number(t) = n }, api.OK})
		}
	}
	add("the kind", 0, 2, api.ErrNone, func(t *api.HrTest) *int { return &t.Kind })
	add("the error", 0, 10000, api.ErrRange, func(t *api.HrTest) *int { return &t.Error })
	for i := range 3 {
		add("a weight", 0, heaviest, api.ErrRange, func(t *api.HrTest) *int { return &t.Marks[i].Weight })
		add("a minute", i, longest-2+i, api.ErrRange, func(t *api.HrTest) *int {
			// The other minutes are as far away as they can be, so that the order is kept.
			for j := range t.Marks {
				t.Marks[j].Minute = j
				if j > i {
					t.Marks[j].Minute = longest - 2 + j
				}
			}
			return &t.Marks[i].Minute
		})
	}
	// What is within the range of minutes, but not within the order, is no error of a range.
	return slices.DeleteFunc(list, func(c brokenTest) bool { return c.name == "a minute" && !outOfMinutes(c) })
}

// outOfMinutes reports whether a minute of a test is none.
func outOfMinutes(c brokenTest) bool {
	t := exampleT()
	c.change(&t)
	return slices.ContainsFunc(t.Marks, func(m api.HrMark) bool { return m.Minute < 0 || m.Minute > longest })
}

// P9.2, P9.6: the error of the test.
func TestTheErrorOfTheTest(t *testing.T) {
	for _, c := range brokenTests() {
		g := good()
		g.t.Marks = slices.Clone(g.t.Marks)
		c.change(&g.t)
		a := ask(t, g)
		if c.e != api.OK && a != ofTest(c.e) {
			t.Errorf("%s: %v, not %d", c.name, a, c.e)
		}
		// A test without an error need not be possible.
		a.rate = api.OK
		if c.e == api.OK && a != (answers{}) {
			t.Errorf("%s: %v", c.name, a)
		}
	}
}

// P9.3, P9.4, P9.5: the error of tests is that of the first one with an error, whatever else is wrong.
func TestTheErrorOfTests(t *testing.T) {
	for _, c := range brokenTests() {
		for at := range 8 {
			g := good()
			g.l = slices.Repeat([]api.HrTest{exampleT()}, 8)
			g.l[at] = copyOf(g.l[at])
			c.change(&g.l[at])
			if a := ask(t, g); a != ofTests(c.e) {
				t.Errorf("%s: %v, not %d", c.name, a, c.e)
			}
			for _, w := range wrongs() {
				if w.s, w.l = works(), g.l; c.e == api.OK {
					continue
				}
				a := ask(t, w)
				a.rate, a.odd, a.write, a.read = api.OK, api.OK, api.OK, api.OK
				if a != ofTests(c.e) {
					t.Errorf("%s: %v, not %d", c.name, a, c.e)
				}
			}
		}
	}
}

// P9.3, P9.4, P9.5: the first test with an error decides, whatever comes behind it.
func TestTheFirstTestWithAnErrorDecides(t *testing.T) {
	list := []struct {
		test api.HrTest
		e    api.Errno
	}{
		{of(3, exampleT()), api.ErrNone},
		{burnt(0, mark(0, 0)), api.ErrLong},
		{burnt(-1, mark(0, 0), mark(1, 0)), api.ErrRange},
		{burnt(0, mark(0, 0), mark(0, 0)), api.ErrArg},
	}
	for _, first := range list {
		for _, second := range list {
			g := changed(func(g *given) { g.l = []api.HrTest{exampleT(), first.test, exampleU(), second.test} })
			if a := ask(t, g); a != ofTests(first.e) {
				t.Errorf("%v, not %d", a, first.e)
			}
		}
	}
}

// P9.3, P9.4, P9.5: there are at most eight tests, and that is said before any of their errors.
func TestTooManyTests(t *testing.T) {
	for many := range 12 {
		for _, one := range []api.HrTest{exampleT(), {}, {Kind: -1}} {
			g := changed(func(g *given) { g.l = slices.Repeat([]api.HrTest{one}, many) })
			a := ask(t, g)
			if many > 8 && a != ofTests(api.ErrLong) {
				t.Errorf("%d tests: %v", many, a)
			}
			if many > 0 && many <= 8 && one.Kind == 0 && len(one.Marks) > 0 && a != (answers{}) {
				t.Errorf("%d tests: %v", many, a)
			}
			if many > 0 && many <= 8 && one.Kind < 0 && a != ofTests(api.ErrNone) {
				t.Errorf("%d tests: %v", many, a)
			}
		}
	}
}

// P9.3, P9.4: then comes the kind, before anything that its tests tell.
func TestTheKindHasToBeOne(t *testing.T) {
	for _, n := range outside(0, 2) {
		for _, l := range [][]api.HrTest{{exampleT()}, {exampleU()}, {lost(0)}, nil} {
			for _, rule := range []int{0, -1, 3} {
				g := changed(func(g *given) { g.l, g.kind, g.rule, g.boxes = l, n, rule, nil })
				if a := ask(t, g); a != ofKind(api.ErrNone) {
					t.Errorf("%d: %v", n, a)
				}
			}
		}
	}
	for n := range 3 {
		g := changed(func(g *given) { g.kind, g.l = n, []api.HrTest{of(n, exampleT())}; g.boxes = nil })
		if a := ask(t, g); a != (answers{}) {
			t.Errorf("%d: %v", n, a)
		}
	}
}

// P9.3, P9.4, P9.5: then comes whether there is a possible test, before a candle that does not burn, and before the rule.
func TestThereHasToBeAPossibleTest(t *testing.T) {
	still := burnt(0, mark(0, 5), mark(60, 5))
	heavier := burnt(0, mark(0, 5), mark(60, 50))
	for _, rule := range []int{0, 2, -1, 3, math.MinInt, math.MaxInt} {
		for _, l := range [][]api.HrTest{nil, {exampleU()}, {exampleU(), exampleU()}, {of(1, exampleT())}, {exampleU(), of(1, exampleT()), of(2, still)}} {
			g := changed(func(g *given) { g.l, g.rule = l, rule })
			if a := ask(t, g); a != ofTests(api.ErrDown) {
				t.Errorf("%v: %v", l, a)
			}
		}
		for _, l := range [][]api.HrTest{{still}, {heavier}, {still, exampleU(), heavier}, {heavier, of(1, exampleT())}} {
			g := changed(func(g *given) { g.l, g.rule = l, rule })
			if a := ask(t, g); a != ofTests(api.ErrZero) {
				t.Errorf("%v: %v", l, a)
			}
		}
	}
	for _, l := range [][]api.HrTest{{still, exampleT()}, {heavier, exampleU(), exampleT()}, {burnt(1, mark(0, 5), mark(60, 5))}} {
		g := changed(func(g *given) { g.l = l })
		if a := ask(t, g); a != (answers{}) {
			t.Errorf("%v: %v", l, a)
		}
	}
}

// P9.4: then comes the rule.
func TestTheRuleHasToBeOne(t *testing.T) {
	for _, n := range outside(0, 2) {
		if a := ask(t, changed(func(g *given) { g.rule = n })); a != (answers{fits: api.ErrNone}) {
			t.Errorf("%d: %v", n, a)
		}
	}
	for n := range 3 {
		if a := ask(t, changed(func(g *given) { g.rule = n })); a != (answers{}) {
			t.Errorf("%d: %v", n, a)
		}
	}
	if a := ask(t, changed(func(g *given) { g.s.Rules = nil })); a != (answers{fits: api.ErrNone}) {
		t.Errorf("%v", a)
	}
}

// P9.5: there are at most 20 boxes, and that is said before any of their errors.
func TestTooManyBoxes(t *testing.T) {
	for many := range 25 {
		for _, one := range []api.HrBox{{}, {Hours: longest}, {Kind: -1}, {Hours: -1}, {Kind: 1}} {
			g := changed(func(g *given) { g.boxes = slices.Repeat([]api.HrBox{one}, many) })
			a, want := ask(t, g), answers{}
			switch {
			case many > 20:
				want.broken = api.ErrLong
			case many == 0:
			case one.Kind < 0:
				want.broken = api.ErrNone
			case one.Hours < 0:
				want.broken = api.ErrRange
			case one.Kind == 1:
				want.broken = api.ErrDown
			}
			if a != want {
				t.Errorf("%d of %v: %v", many, one, a)
			}
		}
	}
}

// P9.5: the first box with an error decides, and of its errors the one named first.
func TestTheErrorOfBoxes(t *testing.T) {
	list := []struct {
		box api.HrBox
		e   api.Errno
	}{
		{api.HrBox{Kind: 3, Hours: -1}, api.ErrNone},
		{api.HrBox{Kind: -1, Hours: longest + 1}, api.ErrNone},
		{api.HrBox{Kind: math.MaxInt}, api.ErrNone},
		{api.HrBox{Kind: 1, Hours: -1}, api.ErrRange},
		{api.HrBox{Kind: 2, Hours: longest + 1}, api.ErrRange},
		{api.HrBox{Kind: 0, Hours: math.MinInt}, api.ErrRange},
		{api.HrBox{Kind: 0, Hours: math.MaxInt}, api.ErrRange},
		{api.HrBox{Kind: 1, Hours: 0}, api.ErrDown},
		{api.HrBox{Kind: 1, Hours: longest}, api.ErrDown},
		{api.HrBox{Kind: 2, Hours: 0}, api.ErrZero},
	}
	for _, first := range list {
		for _, second := range list {
			for _, more := range [][]api.HrBox{nil, {{Hours: 22}}, {{Hours: 22}, {}, {Hours: longest}}} {
				g := changed(func(g *given) {
					g.l = []api.HrTest{exampleT(), of(1, exampleU()), of(2, lost(0))}
					g.boxes = slices.Concat(more, []api.HrBox{first.box, second.box}, more)
				})
				if a := ask(t, g); a != (answers{broken: first.e}) {
					t.Errorf("%v: %v, not %d", g.boxes, a, first.e)
				}
			}
		}
	}
	// Only the kinds that are promised need tests.
	g := changed(func(g *given) { g.boxes = []api.HrBox{{Hours: 0}, {Hours: longest}} })
	if a := ask(t, g); a != (answers{}) {
		t.Errorf("%v", a)
	}
}

// P9.6: a text that is too long is this first, after the shop.
func TestTheErrorOfTheText(t *testing.T) {
	for _, c := range []struct {
		text string
		e    api.Errno
	}{
		{goodText, api.OK},
		{"", api.ErrForm},
		{strings.Repeat("a", 300), api.ErrForm},
		{strings.Repeat("a", 301), api.ErrLong},
		{goodText + strings.Repeat("\n", 301-len(goodText)), api.ErrLong},
	} {
		if a := ask(t, changed(func(g *given) { g.text = c.text })); a != (answers{read: c.e}) {
			t.Errorf("%q: %v", c.text, a)
		}
	}
}
