package mould_test

import (
	"math"
	"testing"

	"stearin/api"
	"stearin/mould"
)

// broken is the example mould with a change, and what Check returns of it.
type broken struct {
	name   string
	change func(m *api.MdMould)
	e      api.Errno
}

// brokenMoulds are moulds with errors, and the ones at the limits, which have none.
func brokenMoulds() []broken {
	list := []broken{
		{"M", func(m *api.MdMould) {}, api.OK},
		{"as much as there can be", func(m *api.MdMould) { *m = full() }, api.OK},
		{"as little as there can be", func(m *api.MdMould) { *m = api.MdMould{Rings: 1, Give: 1, Fill: 1, Gap: 1} }, api.OK},
		{"all at the upper limits", func(m *api.MdMould) { *m = full(); m.Pour.Lo, m.Wall.Lo = 2000, 2000 }, api.OK},
		{"no rings", func(m *api.MdMould) { m.Rings, m.Skin = 0, 0 }, api.ErrRange},
		{"the zero value", func(m *api.MdMould) { *m = api.MdMould{} }, api.ErrRange},
		{"as many rings as Skin", func(m *api.MdMould) { m.Skin = 2 }, api.OK},
		{"more rings than Skin", func(m *api.MdMould) { m.Rings, m.Skin = 8, 7 }, api.OK},
		{"fewer rings than Skin", func(m *api.MdMould) { m.Rings = 1; m.Skin = 2 }, api.ErrRange},
		{"fewer rings than Skin, of many", func(m *api.MdMould) { m.Rings, m.Skin = 7, 8 }, api.ErrRange},
		{"the wax colder than the wall", func(m *api.MdMould) { m.Pour, m.Wall = span(0, 100), span(1900, 2000) }, api.OK},
		{"the order of Pour", func(m *api.MdMould) { m.Pour = span(801, 800) }, api.ErrArg},
		{"the order of Wall", func(m *api.MdMould) { m.Wall = span(301, 300) }, api.ErrArg},
		{"the order of both", func(m *api.MdMould) { m.Pour, m.Wall = span(2000, 0), span(2000, 0) }, api.ErrArg},
		{"single warmths", func(m *api.MdMould) { m.Pour, m.Wall = span(800, 800), span(300, 300) }, api.OK},
		{"the range before the order", func(m *api.MdMould) { m.Pour = span(2001, 800) }, api.ErrRange},
		{"the range before the order of another one", func(m *api.MdMould) { m.Pour, m.Wall = span(801, 800), span(-1, 300) }, api.ErrRange},
		{"the last range before the order", func(m *api.MdMould) { m.Pour, m.Deep = span(801, 800), -1 }, api.ErrRange},
		{"many rings, and the order", func(m *api.MdMould) { m.Rings, m.Wall = 9, span(301, 300) }, api.ErrRange},
	}
	return append(list, brokenNumbers()...)
}

// brokenNumbers are moulds of which one number is not in its range, or at one of its ends.
func brokenNumbers() []broken {
	var list []broken
	add := func(name string, least, most int, number func(m *api.MdMould) *int) {
		for _, n := range outside(least, most) {
			list = append(list, broken{name, func(m *api.MdMould) { *number(m) = n }, api.ErrRange})
		}
		for _, n := range []int{least, most} {
			list = append(list, broken{name + ", at an end", func(m *api.MdMould) { *number(m) = n }, api.OK})
		}
	}
	// Without a Skin, which would be one of more rings than there are.
	add("rings", 1, 8, func(m *api.MdMould) *int { m.Skin = 0; return &m.Rings })
	add("give", 1, 500, func(m *api.MdMould) *int { return &m.Give })
	// The other end is as far away as it can be, so that the order is kept.
	add("pour at least", 0, 2000, func(m *api.MdMould) *int { m.Pour.Hi = 2000; return &m.Pour.Lo })
	add("pour at most", 0, 2000, func(m *api.MdMould) *int { m.Pour.Lo = 0; return &m.Pour.Hi })
	add("wall at least", 0, 2000, func(m *api.MdMould) *int { m.Wall.Hi = 2000; return &m.Wall.Lo })
	add("wall at most", 0, 2000, func(m *api.MdMould) *int { m.Wall.Lo = 0; return &m.Wall.Hi })
	add("set", 0, 2000, func(m *api.MdMould) *int { return &m.Set })
	add("shrink", 0, 200, func(m *api.MdMould) *int { return &m.Shrink })
	add("skin", 0, 2, func(m *api.MdMould) *int { return &m.Skin })
	add("fill", 1, 100000, func(m *api.MdMould) *int { return &m.Fill })
	add("gap", 1, 60, func(m *api.MdMould) *int { return &m.Gap })
	add("deep", 0, 100000, func(m *api.MdMould) *int { return &m.Deep })
	return list
}

// P5.1
func TestCheck(t *testing.T) {
	for _, c := range brokenMoulds() {
		m := with(c.change)
		if e := mould.Check(m); e != c.e {
			t.Errorf("%s: %v: Check = %d, not %d", c.name, m, e, c.e)
		}
	}
}

// given are the arguments of all functions but Check.
type given struct {
	m      api.MdMould
	t      api.MdTruth
	minute int
	plan   []int
}

// answers are the errors of all functions but Check.
type answers struct{ cool, warm, sets, skin, hollow, fewest api.Errno }

// ask calls all functions but Check, and reports an error that comes with another result.
func ask(t *testing.T, g given) answers {
	t.Helper()
	var a answers
	var cool, fewest []int
	var warm, sets []api.Span
	var skin api.Span
	var hollow api.MdEnd
	cool, a.cool = mould.Cool(g.m, g.t)
	warm, a.warm = mould.Warm(g.m, g.minute)
	sets, a.sets = mould.Sets(g.m)
	skin, a.skin = mould.Skin(g.m, g.minute)
	hollow, a.hollow = mould.Hollow(g.m, g.plan)
	fewest, a.fewest = mould.Fewest(g.m)
	for i, c := range []struct {
		e              api.Errno
		zero, asStated bool
	}{
		{a.cool, len(cool) == 0, len(cool) == g.m.Rings},
		{a.warm, len(warm) == 0, len(warm) == g.m.Rings},
		{a.sets, len(sets) == 0, len(sets) == g.m.Rings},
		{a.skin, skin == api.Span{}, 0 <= skin.Lo && skin.Lo <= skin.Hi && skin.Hi <= g.m.Rings},
		{a.hollow, hollow == api.MdEnd{}, 0 <= hollow.Hollow.Lo && 0 <= hollow.Poured.Lo},
		{a.fewest, len(fewest) == 0, len(fewest) <= 40},
	} {
		if c.e != api.OK && !c.zero || c.e == api.OK && !c.asStated || c.e < api.OK || c.e > api.ErrDown {
			t.Fatalf("%v: the function %d returns the error %d and more, or not what is stated", g, i, c.e)
		}
	}
	return a
}

// P5.1, P1: all functions but Check return the error of the mould first, whatever else is wrong.
func TestTheErrorOfTheMouldComesFirst(t *testing.T) {
	for _, c := range brokenMoulds() {
		m := with(c.change)
		if c.e == api.OK {
			continue
		}
		for _, g := range []given{
			{m: m, t: steady(example(), 800, 200, 4), minute: 3, plan: []int{2}},
			{m: m, t: api.MdTruth{Pour: wall(800, 9), Wall: wall(200, 601)}, minute: 601, plan: make([]int, 41)},
			{m: m, t: api.MdTruth{Pour: []int{-1, 3000}, Wall: []int{-1}}, minute: -1, plan: []int{601, -1}},
			{m: m},
		} {
			if a := ask(t, g); a != (answers{c.e, c.e, c.e, c.e, c.e, c.e}) {
				t.Errorf("%s: %v, not %d", c.name, a, c.e)
			}
		}
	}
}

// P5.2
func TestErrorsOfCool(t *testing.T) {
	wide := with(func(m *api.MdMould) { m.Pour = span(700, 900) })
	for i, c := range []struct {
		pour, wall []int
		e          api.Errno
	}{
		{[]int{700, 900}, nil, api.OK},
		{[]int{700, 900}, []int{200, 300}, api.OK},
		{[]int{700, 900}, wall(250, 600), api.OK},
		{[]int{700, 900}, wall(250, 601), api.ErrLong},
		{nil, nil, api.ErrLong},
		{[]int{700}, nil, api.ErrLong},
		{[]int{700, 800, 900}, nil, api.ErrLong},
		{wall(800, 8), nil, api.ErrLong},
		{wall(800, 9), nil, api.ErrLong},
		{wall(800, 1000), nil, api.ErrLong},
		{[]int{699, 800}, nil, api.ErrRange},
		{[]int{800, 699}, nil, api.ErrRange},
		{[]int{901, 800}, nil, api.ErrRange},
		{[]int{800, 901}, nil, api.ErrRange},
		{[]int{800, 800}, []int{199}, api.ErrRange},
		{[]int{800, 800}, []int{301}, api.ErrRange},
		{[]int{800, 800}, []int{250, 250, 250, 301}, api.ErrRange},
		{[]int{800, 800}, []int{250, 199, 250, 250}, api.ErrRange},
		{[]int{800, 800}, append(wall(250, 599), 199), api.ErrRange},
		// The wall is not as warm as the wax, and the other way round.
		{[]int{250, 250}, nil, api.ErrRange},
		{[]int{800, 800}, []int{800}, api.ErrRange},
		// The numbers of both before what each is.
		{[]int{699}, nil, api.ErrLong},
		{[]int{699, 800}, wall(250, 601), api.ErrLong},
		{[]int{800, 800}, wall(199, 601), api.ErrLong},
		{[]int{800}, []int{301}, api.ErrLong},
		{[]int{math.MinInt, math.MaxInt}, nil, api.ErrRange},
		{[]int{800, 800}, []int{math.MaxInt}, api.ErrRange},
	} {
		got, e := mould.Cool(wide, api.MdTruth{Pour: c.pour, Wall: c.wall})
		if e != c.e || len(got) != 0 && e != api.OK || len(got) != 2 && e == api.OK {
			t.Errorf("%d: Cool = %v, %d, not %d", i, got, e, c.e)
		}
	}
}

// P5.3, P5.4
func TestErrorsOfAMinute(t *testing.T) {
	for _, m := range []api.MdMould{example(), full(), with(func(m *api.MdMould) { m.Set = 0 })} {
		for _, n := range outside(0, 600) {
			if a := ask(t, given{m: m, minute: n}); a.warm != api.ErrRange || a.skin != api.ErrRange {
				t.Errorf("%v: in the minute %d: %v", m, n, a)
			}
		}
		for _, n := range []int{0, 1, 599, 600} {
			if a := ask(t, given{m: m, minute: n}); a.warm != api.OK || a.skin != api.OK {
				t.Errorf("%v: in the minute %d: %v", m, n, a)
			}
		}
	}
}

// gapped is the example with a Gap, and with toppings that can always be poured.
func gapped(gap int) api.MdMould {
	return with(func(m *api.MdMould) { m.Gap, m.Skin = gap, 2 })
}

// P5.5: the errors of a plan, in their order.
func TestErrorsOfAPlan(t *testing.T) {
	every := func(gap, many int) []int {
		var plan []int
		for i := range many {
			plan = append(plan, i*gap)
		}
		return plan
	}
	for i, c := range []struct {
		gap  int
		plan []int
		e    api.Errno
	}{
		{1, nil, api.OK},
		{1, []int{0}, api.OK},
		{1, []int{600}, api.OK},
		{1, []int{601}, api.ErrRange},
		{1, []int{-1}, api.ErrRange},
		{1, []int{math.MinInt}, api.ErrRange},
		{1, []int{math.MaxInt}, api.ErrRange},
		{1, []int{0, 1, 2, 3}, api.OK},
		{1, []int{599, 600}, api.OK},
		{1, []int{3, 3}, api.ErrArg},
		{1, []int{3, 2}, api.ErrArg},
		{1, []int{3, 4, 4}, api.ErrArg},
		{2, []int{3, 4}, api.ErrArg},
		{2, []int{3, 5}, api.OK},
		{2, []int{3, 6}, api.OK},
		{2, []int{0, 2, 3}, api.ErrArg},
		{2, []int{0, 1, 3}, api.ErrArg},
		// The gap is that to the topping before, not to the one before it.
		{60, []int{0, 60, 119}, api.ErrArg},
		{60, []int{0, 60, 120, 600}, api.OK},
		// The first topping has none before it.
		{60, []int{0}, api.OK},
		{60, []int{1}, api.OK},
		{60, []int{59, 119}, api.OK},
		{60, []int{59, 118}, api.ErrArg},
		{60, every(60, 11), api.OK},
		{60, every(60, 12), api.ErrRange},
		// Just as many toppings as there can be.
		{1, every(1, 40), api.OK},
		{15, every(15, 40), api.OK},
		{15, every(15, 41), api.ErrLong},
		{1, every(1, 41), api.ErrLong},
		{1, make([]int, 40), api.ErrArg},
		{1, make([]int, 41), api.ErrLong},
		{1, make([]int, 1000), api.ErrLong},
		{1, append(wall(601, 40), -1), api.ErrLong},
		// The first topping with an error, and of its errors the range.
		{1, []int{3, 2, 601}, api.ErrArg},
		{1, []int{601, 600}, api.ErrRange},
		{1, []int{3, -1}, api.ErrRange},
		{1, []int{3, math.MinInt}, api.ErrRange},
		{1, []int{3, 601, 602}, api.ErrRange},
		{60, []int{590, 601}, api.ErrRange},
		{60, []int{600, 590, 601}, api.ErrArg},
	} {
		got, e := mould.Hollow(gapped(c.gap), c.plan)
		if e != c.e || e != api.OK && got != (api.MdEnd{}) {
			t.Errorf("%d: Hollow = %v, %d, not %d", i, got, e, c.e)
		}
		// The errors of a plan come before those of rings that do not set, and of a skin.
		for _, m := range []api.MdMould{with(func(m *api.MdMould) { m.Gap, m.Skin, m.Set = c.gap, 0, 0 }), with(func(m *api.MdMould) { m.Gap, m.Skin, m.Set = c.gap, 0, 800 })} {
			want := c.e
			if want == api.OK && (len(c.plan) > 0 || m.Set == 0) {
				want = api.ErrDown
			}
			if got, e := mould.Hollow(m, c.plan); e != want || e != api.OK && got != (api.MdEnd{}) {
				t.Errorf("%d: %v: Hollow = %v, %d, not %d", i, m, got, e, want)
			}
		}
	}
}
