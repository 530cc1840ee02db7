package dip_test

import (
	"math"
	"slices"
	"strings"
	"testing"

	"stearin/api"
	"stearin/dip"
)

// broken is the example shop with a change, and what Check returns of it.
type broken struct {
	name     string
	change   func(x *api.DpShop)
	part, at int
	e        api.Errno
}

// brokenShops are shops with errors, and the ones at the limits, which have none.
func brokenShops() []broken {
	list := []broken{
		{"S", func(x *api.DpShop) {}, 0, 0, api.OK},
		{"as much as there can be", func(x *api.DpShop) { *x = full() }, 0, 0, api.OK},
		{"as little as there can be", func(x *api.DpShop) { *x = api.DpShop{Baths: []api.DpBath{{Name: "a"}}} }, 0, 0, api.OK},
		{"all at the upper limits", func(x *api.DpShop) {
			*x = api.DpShop{Melt: 2000, Coat: 5000, Thin: 100, Hold: 600, Back: 10, Draw: 600, Set: 600, Run: 50, Baths: []api.DpBath{{Name: "a", Warm: span(2000, 2000)}}}
		}, 0, 0, api.OK},
		{"the zero value", func(x *api.DpShop) { *x = api.DpShop{} }, 2, 0, api.ErrLong},
		{"empty, not nil", func(x *api.DpShop) { x.Baths = []api.DpBath{} }, 2, 0, api.ErrLong},
		{"no baths", func(x *api.DpShop) { x.Baths = nil }, 2, 0, api.ErrLong},
		{"seven baths", func(x *api.DpShop) { x.Baths = append(full().Baths, x.Baths[1]) }, 2, 0, api.ErrLong},
		{"six baths", func(x *api.DpShop) { x.Melt, x.Baths = 0, full().Baths }, 0, 0, api.OK},
		{"many baths", func(x *api.DpShop) { x.Baths = make([]api.DpBath, 1000) }, 2, 0, api.ErrLong},
		{"numbers before baths", func(x *api.DpShop) { x.Run, x.Baths = 51, nil }, 1, 0, api.ErrRange},
		{"numbers before names", func(x *api.DpShop) { x.Melt, x.Baths[0].Name = -1, "" }, 1, 0, api.ErrRange},
		{"a bath without name", func(x *api.DpShop) { x.Baths[1].Name = "" }, 2, 1, api.ErrForm},
		{"a name that is too long", func(x *api.DpShop) { x.Baths[0].Name = strings.Repeat("a", 21) }, 2, 0, api.ErrForm},
		{"a name with a space", func(x *api.DpShop) { x.Baths[0].Name = "a b" }, 2, 0, api.ErrForm},
		{"names like words", func(x *api.DpShop) { x.Baths[0].Name = "turned" }, 0, 0, api.OK},
		{"form before twice", func(x *api.DpShop) { x.Baths[0].Name, x.Baths[1].Name = "-", "-" }, 2, 0, api.ErrForm},
		{"form before range", func(x *api.DpShop) { x.Baths[1] = api.DpBath{Name: "High", Warm: span(-1, 3000)} }, 2, 1, api.ErrForm},
		{"twice before range", func(x *api.DpShop) { x.Baths[1] = api.DpBath{Name: "low", Warm: span(-1, 3000)} }, 2, 1, api.ErrTwice},
		{"range before down", func(x *api.DpShop) { x.Baths[1].Warm = span(500, 2001) }, 2, 1, api.ErrRange},
		{"range before order", func(x *api.DpShop) { x.Baths[1].Warm = span(2001, 700) }, 2, 1, api.ErrRange},
		{"down before order", func(x *api.DpShop) { x.Baths[1].Warm = span(599, 598) }, 2, 1, api.ErrDown},
		{"colder than the wax melts", func(x *api.DpShop) { x.Baths[0].Warm.Lo = 599 }, 2, 0, api.ErrDown},
		{"just as warm as the wax melts", func(x *api.DpShop) { x.Baths[0].Warm = span(600, 600) }, 0, 0, api.OK},
		{"the order", func(x *api.DpShop) { x.Baths[1].Warm = span(661, 660) }, 2, 1, api.ErrArg},
		{"the order, with an end that is too cold", func(x *api.DpShop) { x.Baths[1].Warm = span(660, 0) }, 2, 1, api.ErrArg},
		{"the first bath with an error", func(x *api.DpShop) { x.Baths[0].Warm, x.Baths[1].Name = span(631, 630), "" }, 2, 0, api.ErrArg},
		{"the first bath with an error, before one that is named like it", func(x *api.DpShop) { x.Baths[0].Warm, x.Baths[1].Name = span(0, 630), "low" }, 2, 0, api.ErrDown},
	}
	return append(list, brokenNumbers()...)
}

// brokenNumbers are shops of which one number is not in its range.
func brokenNumbers() []broken {
	var list []broken
	add := func(name string, part, at, most int, number func(x *api.DpShop) *int) {
		for _, n := range outside(0, most) {
			list = append(list, broken{name, func(x *api.DpShop) { *number(x) = n }, part, at, api.ErrRange})
		}
	}
	add("melt", 1, 0, 2000, func(x *api.DpShop) *int { return &x.Melt })
	add("coat", 1, 0, 5000, func(x *api.DpShop) *int { return &x.Coat })
	add("thin", 1, 0, 100, func(x *api.DpShop) *int { return &x.Thin })
	add("hold", 1, 0, 600, func(x *api.DpShop) *int { return &x.Hold })
	add("back", 1, 0, 10, func(x *api.DpShop) *int { return &x.Back })
	add("draw", 1, 0, 600, func(x *api.DpShop) *int { return &x.Draw })
	add("set", 1, 0, 600, func(x *api.DpShop) *int { return &x.Set })
	add("run", 1, 0, 50, func(x *api.DpShop) *int { return &x.Run })
	add("warm at least", 2, 0, 2000, func(x *api.DpShop) *int { return &x.Baths[0].Warm.Lo })
	add("warm at most", 2, 1, 2000, func(x *api.DpShop) *int { return &x.Baths[1].Warm.Hi })
	return list
}

// P4.1
func TestCheckNamesTheFirstError(t *testing.T) {
	for _, c := range brokenShops() {
		x := example()
		c.change(&x)
		if part, at, e := dip.Check(x); part != c.part || at != c.at || e != c.e {
			t.Errorf("%s: Check = %d, %d, %d, not %d, %d, %d", c.name, part, at, e, c.part, c.at, c.e)
		}
	}
}

// given are the arguments of all functions but Check; the plan is also the kinds of Fewest.
type given struct {
	x     api.DpShop
	t     api.DpTaper
	plan  []api.DpDip
	warm  []int
	want  api.Span
	bound int
	text  string
}

// answers are the errors of all functions but Check.
type answers struct{ follow, after, worst, fewest, write, read api.Errno }

// ask calls all functions but Check, and reports an error that comes with another result.
func ask(t *testing.T, g given) answers {
	t.Helper()
	var a answers
	var taper api.DpTaper
	var ranges []api.DpRange
	var warm, kinds []int
	var text string
	var read []api.DpDip
	taper, a.follow = dip.Follow(g.x, g.t, g.plan, g.warm)
	ranges, a.after = dip.After(g.x, g.t, g.plan)
	warm, a.worst = dip.Worst(g.x, g.t, g.plan, g.bound)
	kinds, a.fewest = dip.Fewest(g.x, g.t, g.plan, g.want, g.bound)
	text, a.write = dip.Write(g.x, g.plan)
	read, a.read = dip.Read(g.x, g.text)
	for i, c := range []struct {
		e    api.Errno
		zero bool
	}{
		{a.follow, taper == api.DpTaper{}},
		{a.after, len(ranges) == 0},
		{a.worst, len(warm) == 0},
		{a.fewest, len(kinds) == 0},
		{a.write, text == ""},
		{a.read, len(read) == 0},
	} {
		if c.e != api.OK && !c.zero || c.e < api.OK || c.e > api.ErrDown {
			t.Fatalf("%v: the function %d returns the error %d and more", g, i, c.e)
		}
	}
	return a
}

// P4.1, P1: all functions but Check return the error of the shop first, whatever else is wrong.
func TestTheErrorOfTheShopComesFirst(t *testing.T) {
	for _, c := range brokenShops() {
		x := example()
		c.change(&x)
		if c.e == api.OK {
			continue
		}
		for _, g := range []given{
			{x: x, t: exampleTaper(), plan: plan(dipA()), warm: []int{610}, want: span(2000, 3000)},
			{x: x, t: api.DpTaper{Wick: -1}, plan: plan(api.DpDip{Bath: 9}), want: span(2, 1), bound: -1, text: strings.Repeat("a", 2001)},
			{x: x, t: api.DpTaper{Wick: 2}, plan: make([]api.DpDip, 31), want: span(2, 1), bound: -1, text: "a"},
		} {
			if a := ask(t, g); a != (answers{c.e, c.e, c.e, c.e, c.e, c.e}) {
				t.Errorf("%s: %v, not %d", c.name, a, c.e)
			}
		}
	}
}

// brokenTaper is a taper, and its error.
type brokenTaper struct {
	t api.DpTaper
	e api.Errno
}

// brokenTapers are tapers with errors.
func brokenTapers() []brokenTaper {
	list := []brokenTaper{
		{api.DpTaper{Wick: 2000, Top: 1999, Foot: 2000}, api.ErrArg},
		{api.DpTaper{Wick: 2000, Top: 2000, Foot: 1999}, api.ErrArg},
		{api.DpTaper{Wick: 100000, Top: 0, Foot: 100000}, api.ErrArg},
		{api.DpTaper{Wick: 1}, api.ErrArg},
		// The range before the order.
		{api.DpTaper{Wick: 2000, Top: 1999, Foot: 100001}, api.ErrRange},
		{api.DpTaper{Wick: 2000, Top: -1, Foot: 1999}, api.ErrRange},
		{api.DpTaper{Wick: 100001, Top: 100000, Foot: 100000}, api.ErrRange},
	}
	for _, n := range outside(0, 100000) {
		list = append(list, brokenTaper{api.DpTaper{Wick: n, Top: 2000, Foot: 2000}, api.ErrRange},
			brokenTaper{api.DpTaper{Wick: 2000, Top: n, Foot: 2000}, api.ErrRange},
			brokenTaper{api.DpTaper{Wick: 2000, Top: 2000, Foot: n}, api.ErrRange})
	}
	return list
}

// P4.2 to P4.5: then comes the error of the taper, in all functions that have one.
func TestTheErrorOfTheTaper(t *testing.T) {
	for _, c := range brokenTapers() {
		for _, g := range []given{
			{x: example(), t: c.t, plan: plan(dipA()), warm: []int{610}, want: span(2000, 3000)},
			{x: example(), t: c.t, plan: plan(api.DpDip{Bath: 9}), want: span(2, 1), bound: -1},
			{x: example(), t: c.t, plan: make([]api.DpDip, 31), bound: -1},
		} {
			a := ask(t, g)
			if a.follow != c.e || a.after != c.e || a.worst != c.e || a.fewest != c.e {
				t.Errorf("%v: %v, not %d", g, a, c.e)
			}
		}
	}
	for _, x := range []api.DpTaper{{}, {Top: 100000}, {Foot: 100000}, {Wick: 100000, Top: 100000, Foot: 100000}, {Wick: 5, Top: 5, Foot: 6}} {
		if got, e := dip.Follow(example(), x, nil, nil); got != x || e != api.OK {
			t.Errorf("%v: Follow = %v, %d", x, got, e)
		}
	}
}

// brokenPlan is a plan, and its error.
type brokenPlan struct {
	plan []api.DpDip
	e    api.Errno
}

// brokenPlans are plans with errors, whose first dip may have one, or none.
func brokenPlans() []brokenPlan {
	var list []brokenPlan
	add := func(e api.Errno, dips ...api.DpDip) { list = append(list, brokenPlan{dips, e}) }
	for _, n := range append(outside(0, 1), 5, 6, 7) {
		add(api.ErrNone, api.DpDip{Bath: n, Seconds: 3})
		add(api.ErrNone, api.DpDip{Bath: n, Seconds: -1, Pause: -1})
		add(api.ErrNone, dipA(), api.DpDip{Bath: n, Seconds: 2})
	}
	for _, n := range outside(0, 600) {
		add(api.ErrRange, api.DpDip{Seconds: n})
		add(api.ErrRange, api.DpDip{Bath: 1, Seconds: 3, Pause: n})
		// The range before the order.
		add(api.ErrRange, api.DpDip{Seconds: 2, Pause: n})
		add(api.ErrRange, dipA(), dipB(), api.DpDip{Seconds: n, Pause: 600, Turned: true})
	}
	for n := range 3 {
		add(api.ErrArg, api.DpDip{Seconds: n})
		add(api.ErrArg, dipD(), api.DpDip{Seconds: n, Pause: 600})
	}
	// The first dip with an error.
	add(api.ErrArg, api.DpDip{Seconds: 2}, api.DpDip{Bath: 2, Seconds: 3})
	add(api.ErrRange, api.DpDip{Seconds: 601}, api.DpDip{Bath: 2, Seconds: 3})
	add(api.ErrArg, api.DpDip{Seconds: 2}, api.DpDip{Seconds: 601})
	return list
}

// P4.2 to P4.6: then comes the error of the plan, or of the kinds, in all functions that have one.
func TestTheErrorOfThePlan(t *testing.T) {
	for _, c := range brokenPlans() {
		for _, bound := range []int{0, -1} {
			a := ask(t, given{x: example(), t: exampleTaper(), plan: c.plan, want: span(2, 1), bound: bound})
			if a.follow != c.e || a.after != c.e || a.worst != c.e || a.fewest != c.e || a.write != c.e {
				t.Errorf("%v: %v, not %d", c.plan, a, c.e)
			}
		}
	}
	for _, n := range []int{31, 32, 1000} {
		for _, d := range []api.DpDip{dipA(), {Bath: 9}} {
			a := ask(t, given{x: example(), t: exampleTaper(), plan: slices.Repeat(plan(d), n), want: span(2, 1), bound: -1})
			if a.follow != api.ErrLong || a.after != api.ErrLong || a.worst != api.ErrLong || a.fewest != api.ErrLong || a.write != api.ErrLong {
				t.Errorf("%d dips: %v", n, a)
			}
		}
	}
	// At the limits there is none.
	for _, d := range []api.DpDip{{Bath: 0, Seconds: 3, Pause: 0}, {Bath: 1, Seconds: 600, Pause: 600}} {
		if _, e := dip.Write(example(), slices.Repeat(plan(d), 30)); e != api.OK {
			t.Errorf("%v: Write: %d", d, e)
		}
	}
	// No dip can be longer than a Draw of 600 seconds, and any dip is longer than one of 0.
	x := example()
	x.Draw = 600
	if _, e := dip.Write(x, plan(api.DpDip{Seconds: 600})); e != api.ErrArg {
		t.Errorf("Write: %d", e)
	}
	x.Draw = 0
	if _, e := dip.Write(x, plan(api.DpDip{Seconds: 0})); e != api.ErrArg {
		t.Errorf("Write: %d", e)
	}
	if _, e := dip.Write(x, plan(api.DpDip{Seconds: 1})); e != api.OK {
		t.Errorf("Write: %d", e)
	}
}

// P4.2: then comes the error of the warmth, before that of a taper that is lost.
func TestTheErrorOfTheWarmth(t *testing.T) {
	two := plan(hotDip(), dipA())
	for i, c := range []struct {
		plan        []api.DpDip
		warm        []int
		thin, thick api.Errno
	}{
		{two, nil, api.ErrLong, api.ErrLong},
		{two, []int{}, api.ErrLong, api.ErrLong},
		{two, []int{0}, api.ErrLong, api.ErrLong},
		{two, []int{680}, api.ErrLong, api.ErrLong},
		{two, []int{680, 610, 610}, api.ErrLong, api.ErrLong},
		{two, make([]int, 1000), api.ErrLong, api.ErrLong},
		{nil, []int{610}, api.ErrLong, api.ErrLong},
		{two, []int{680, 609}, api.ErrRange, api.ErrRange},
		{two, []int{680, 631}, api.ErrRange, api.ErrRange},
		{two, []int{659, 610}, api.ErrRange, api.ErrRange},
		{two, []int{681, 610}, api.ErrRange, api.ErrRange},
		{two, []int{610, 680}, api.ErrRange, api.ErrRange},
		{two, []int{680, math.MinInt}, api.ErrRange, api.ErrRange},
		{two, []int{math.MaxInt, 610}, api.ErrRange, api.ErrRange},
		{two, []int{680, 610}, api.ErrDown, api.OK},
		{two, []int{660, 610}, api.OK, api.OK},
		{two, []int{660, 630}, api.OK, api.OK},
		{nil, nil, api.OK, api.OK},
	} {
		for at, want := range map[int]api.Errno{2000: c.thin, 2280: c.thick} {
			if x, e := dip.Follow(example(), taper(at, at), c.plan, c.warm); e != want || e != api.OK && x != (api.DpTaper{}) {
				t.Errorf("%d, %d: Follow = %v, %d, not %d", i, at, x, e, want)
			}
		}
	}
}

// P4.4: in Worst a taper that is lost comes before a bound below 0.
func TestTheErrorOfTheBound(t *testing.T) {
	for _, n := range []int{-1, -2, -1000000, math.MinInt32, math.MinInt} {
		for _, p := range [][]api.DpDip{nil, plan(dipA()), plan(dipB(), dipD())} {
			if l, e := dip.Worst(example(), exampleTaper(), p, n); len(l) != 0 || e != api.ErrRange {
				t.Errorf("%d: Worst = %v, %d", n, l, e)
			}
		}
		if l, e := dip.Worst(example(), exampleTaper(), plan(dipA(), hotDip(), hotDip(), hotDip()), n); len(l) != 0 || e != api.ErrDown {
			t.Errorf("%d: Worst = %v, %d", n, l, e)
		}
		// In Fewest it comes before a want that nothing makes.
		for _, want := range []api.Span{span(2000, 2000), span(0, 0)} {
			if l, e := dip.Fewest(example(), exampleTaper(), plan(dipA()), want, n); len(l) != 0 || e != api.ErrRange {
				t.Errorf("%d: Fewest = %v, %d", n, l, e)
			}
		}
		if l, e := dip.Fewest(example(), exampleTaper(), plan(dipA()), span(2001, 2000), n); len(l) != 0 || e != api.ErrArg {
			t.Errorf("%d: Fewest = %v, %d", n, l, e)
		}
	}
}

// P4.5: how many kinds there can be, and the order of what is wanted.
func TestTheErrorOfKinds(t *testing.T) {
	for _, n := range []int{0, 6, 7, 30, 31, 1000} {
		for _, d := range []api.DpDip{dipA(), {Bath: -1}} {
			if l, e := dip.Fewest(example(), exampleTaper(), slices.Repeat(plan(d), n), span(2, 1), -1); len(l) != 0 || e != api.ErrLong {
				t.Errorf("%d kinds: Fewest = %v, %d", n, l, e)
			}
		}
	}
	for n := 1; n <= 5; n++ {
		kinds := slices.Repeat(plan(dipA()), n)
		if l, e := dip.Fewest(example(), exampleTaper(), kinds, span(2001, 2000), 0); len(l) != 0 || e != api.ErrArg {
			t.Errorf("%d kinds: Fewest = %v, %d", n, l, e)
		}
		if l, e := dip.Fewest(example(), exampleTaper(), kinds, span(math.MaxInt, math.MinInt), 0); len(l) != 0 || e != api.ErrArg {
			t.Errorf("%d kinds: Fewest = %v, %d", n, l, e)
		}
		if l, e := dip.Fewest(example(), exampleTaper(), kinds, span(2700, 2900), 0); !slices.Equal(l, []int{0}) || e != api.OK {
			t.Errorf("%d kinds: Fewest = %v, %d", n, l, e)
		}
	}
	// A kind with which the taper is lost is no error.
	if l, e := dip.Fewest(example(), exampleTaper(), plan(hotDip(), dipA()), span(2700, 2900), 0); !slices.Equal(l, []int{1}) || e != api.OK {
		t.Errorf("Fewest = %v, %d", l, e)
	}
}
