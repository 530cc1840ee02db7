package mould_test

import (
	"slices"
	"testing"

	"stearin/api"
	"stearin/mould"
)

// P5.2, and the examples of the chapter.
func TestCool(t *testing.T) {
	for i, c := range []struct {
		wall []int
		want []int
	}{
		{nil, []int{800, 800}},
		{wall(300, 1), []int{550, 800}},
		{wall(300, 2), []int{550, 675}},
		{wall(300, 3), []int{487, 612}},
		{wall(300, 4), []int{456, 549}},
		{wall(300, 5), []int{424, 502}},
		{wall(200, 4), []int{387, 500}},
		// The wall of each minute counts in this minute.
		{[]int{200, 300}, []int{550, 650}},
		{[]int{300, 200}, []int{500, 675}},
		{[]int{300, 300, 200}, []int{437, 612}},
		{[]int{200, 300, 300}, []int{475, 600}},
	} {
		if got, e := mould.Cool(example(), api.MdTruth{Pour: []int{800, 800}, Wall: c.wall}); !slices.Equal(got, c.want) || e != api.OK {
			t.Errorf("%d: Cool = %v, %d, not %v", i, got, e, c.want)
		}
	}
}

// P5.2: each ring, and each number of a mould, counts as the definition says.
func TestCoolOneMinute(t *testing.T) {
	for i, c := range []struct {
		give int
		pour []int
		wall int
		want []int
	}{
		// One ring: there is the wall, and none behind it.
		{500, []int{100}, 0, []int{50}},
		{500, []int{101}, 0, []int{50}},
		{500, []int{100}, 201, []int{150}},
		{250, []int{100}, 0, []int{75}},
		{1, []int{1000}, 0, []int{999}},
		{1, []int{1001}, 0, []int{999}},
		{1, []int{2000}, 0, []int{1998}},
		{1, []int{999}, 1000, []int{999}},
		{1, []int{1}, 0, []int{0}},
		{500, []int{0}, 1, []int{0}},
		{500, []int{2000}, 2000, []int{2000}},
		// Two, and three: what is taken from the ring before and from that behind, and what is kept.
		{300, []int{10, 20}, 0, []int{10, 17}},
		{300, []int{10, 20, 41}, 7, []int{12, 23, 34}},
		{300, []int{41, 20, 10}, 7, []int{24, 23, 13}},
		{500, []int{10, 20, 41}, 7, []int{13, 25, 30}},
		{1, []int{0, 1000, 0}, 0, []int{1, 998, 1}},
		{200, []int{0, 100, 0}, 0, []int{20, 60, 20}},
		{200, []int{100, 0, 0}, 0, []int{60, 20, 0}},
		{200, []int{0, 0, 100}, 0, []int{0, 20, 80}},
		{200, []int{0, 0, 0}, 100, []int{20, 0, 0}},
		// All rings change together: warmth comes just one ring far in a minute.
		{500, []int{1600, 0, 0, 0, 0, 0, 0, 0}, 0, []int{0, 800, 0, 0, 0, 0, 0, 0}},
		{500, []int{0, 0, 0, 0, 0, 0, 0, 1600}, 0, []int{0, 0, 0, 0, 0, 0, 800, 800}},
		{500, []int{0, 0, 0, 0, 0, 0, 0, 0}, 1600, []int{800, 0, 0, 0, 0, 0, 0, 0}},
		{100, []int{10, 20, 30, 40, 50, 60, 70, 80}, 0, []int{10, 20, 30, 40, 50, 60, 70, 79}},
		// Rounded once, in the end.
		{333, []int{1, 1, 1}, 1, []int{1, 1, 1}},
		{333, []int{1, 1, 0}, 1, []int{1, 0, 0}},
		{333, []int{2, 2, 2}, 0, []int{1, 2, 2}},
		{333, []int{2, 2, 2}, 5, []int{2, 2, 2}},
		{334, []int{2, 2, 2}, 5, []int{3, 2, 2}},
	} {
		m := api.MdMould{Rings: len(c.pour), Give: c.give, Pour: span(0, 2000), Wall: span(0, 2000), Fill: 1, Gap: 1}
		if got, e := mould.Cool(m, api.MdTruth{Pour: c.pour, Wall: []int{c.wall}}); !slices.Equal(got, c.want) || e != api.OK {
			t.Errorf("%d: Cool = %v, %d, not %v", i, got, e, c.want)
		}
	}
}

// slow is a mould of one ring that becomes colder by 2 in each of 500 minutes, and then by 1.
func slow(set int) api.MdMould {
	return api.MdMould{Rings: 1, Give: 1, Pour: span(2000, 2000), Wall: span(0, 0), Set: set, Shrink: 100, Skin: 1, Fill: 1, Gap: 1, Deep: 100}
}

// P5.2, P5.3: as many minutes as there can be.
func TestManyMinutes(t *testing.T) {
	for minutes, want := range map[int]int{0: 2000, 1: 1998, 499: 1002, 500: 1000, 501: 999, 599: 901, 600: 900} {
		if got, e := mould.Cool(slow(0), steady(slow(0), 2000, 0, minutes)); !slices.Equal(got, []int{want}) || e != api.OK {
			t.Errorf("after %d minutes: Cool = %v, %d, not %d", minutes, got, e, want)
		}
		if got, e := mould.Warm(slow(0), minutes); !slices.Equal(got, []api.Span{span(want, want)}) || e != api.OK {
			t.Errorf("after %d minutes: Warm = %v, %d, not %d", minutes, got, e, want)
		}
	}
	warmed := api.MdMould{Rings: 8, Give: 500, Pour: span(0, 0), Wall: span(2000, 2000), Fill: 1, Gap: 1}
	if got, e := mould.Cool(warmed, steady(warmed, 0, 2000, 600)); e != api.OK || len(got) != 8 || got[0] <= got[7] {
		t.Errorf("Cool = %v, %d", got, e)
	}
}

// P5.3, and the examples of the chapter.
func TestWarm(t *testing.T) {
	wide := with(func(m *api.MdMould) { m.Pour = span(700, 900) })
	flat := with(func(m *api.MdMould) { m.Pour, m.Wall = span(300, 800), span(300, 800) })
	up := with(func(m *api.MdMould) { m.Pour, m.Wall = span(0, 0), span(1000, 2000) })
	for i, c := range []struct {
		m       api.MdMould
		minutes int
		want    []api.Span
	}{
		{example(), 0, []api.Span{span(800, 800), span(800, 800)}},
		{example(), 1, []api.Span{span(500, 550), span(800, 800)}},
		{example(), 2, []api.Span{span(500, 550), span(650, 675)}},
		{example(), 3, []api.Span{span(425, 487), span(575, 612)}},
		{example(), 4, []api.Span{span(387, 456), span(500, 549)}},
		{example(), 5, []api.Span{span(350, 424), span(443, 502)}},
		{wide, 0, []api.Span{span(700, 900), span(700, 900)}},
		{wide, 1, []api.Span{span(450, 600), span(700, 900)}},
		{wide, 2, []api.Span{span(450, 600), span(575, 750)}},
		{flat, 0, []api.Span{span(300, 800), span(300, 800)}},
		{flat, 600, []api.Span{span(300, 800), span(300, 800)}},
		// Wax that is warmed by the wall.
		{up, 0, []api.Span{span(0, 0), span(0, 0)}},
		{up, 1, []api.Span{span(500, 1000), span(0, 0)}},
		{up, 2, []api.Span{span(500, 1000), span(250, 500)}},
	} {
		if got, e := mould.Warm(c.m, c.minutes); !slices.Equal(got, c.want) || e != api.OK {
			t.Errorf("%d: Warm = %v, %d, not %v", i, got, e, c.want)
		}
	}
}

// P5.4, and the examples of the chapter.
func TestSets(t *testing.T) {
	for i, c := range []struct {
		m    api.MdMould
		want []api.Span
		e    api.Errno
	}{
		{example(), []api.Span{span(1, 3), span(4, 5)}, api.OK},
		// At most Set: just as warm is enough, and one less is not.
		{with(func(m *api.MdMould) { m.Set = 550 }), []api.Span{span(1, 1), span(4, 4)}, api.OK},
		{with(func(m *api.MdMould) { m.Set = 549 }), []api.Span{span(1, 3), span(4, 4)}, api.OK},
		{with(func(m *api.MdMould) { m.Set = 548 }), []api.Span{span(1, 3), span(4, 5)}, api.OK},
		{with(func(m *api.MdMould) { m.Set = 500 }), []api.Span{span(1, 3), span(4, 6)}, api.OK},
		{with(func(m *api.MdMould) { m.Set = 499 }), []api.Span{span(3, 3), span(5, 6)}, api.OK},
		// In the minute 0, also if the wall warms it then.
		{with(func(m *api.MdMould) { m.Set = 800 }), []api.Span{span(0, 0), span(0, 0)}, api.OK},
		{with(func(m *api.MdMould) { m.Set = 799 }), []api.Span{span(1, 1), span(2, 2)}, api.OK},
		{with(func(m *api.MdMould) { m.Pour, m.Wall = span(0, 540), span(0, 2000) }), []api.Span{span(0, 0), span(0, 0)}, api.OK},
		{with(func(m *api.MdMould) { m.Pour, m.Wall = span(0, 541), span(541, 2000) }), nil, api.ErrDown},
		{with(func(m *api.MdMould) { m.Pour = span(540, 800) }), []api.Span{span(0, 3), span(0, 5)}, api.OK},
		// The wall can be too warm, if in one truth alone; the ring 1 alone can be so for ever.
		{with(func(m *api.MdMould) { m.Wall = span(200, 800) }), nil, api.ErrDown},
		{with(func(m *api.MdMould) { m.Wall = span(800, 800) }), nil, api.ErrDown},
		{with(func(m *api.MdMould) { m.Pour, m.Wall = span(800, 801), span(800, 801); m.Set = 800 }), nil, api.ErrDown},
		// The last minute that there is.
		{slow(900), []api.Span{span(600, 600)}, api.OK},
		{slow(901), []api.Span{span(599, 599)}, api.OK},
		{slow(899), nil, api.ErrDown},
		{slow(0), nil, api.ErrDown},
		{slow(2000), []api.Span{span(0, 0)}, api.OK},
		{slow(1999), []api.Span{span(1, 1)}, api.OK},
		{slow(1996), []api.Span{span(2, 2)}, api.OK},
	} {
		got, e := mould.Sets(c.m)
		if !slices.Equal(got, c.want) || e != c.e {
			t.Errorf("%d: Sets = %v, %d, not %v, %d", i, got, e, c.want, c.e)
		}
		_, f := mould.Hollow(c.m, nil)
		c.m.Deep = 100000
		if plan, g := mould.Fewest(c.m); f != c.e || g != c.e || len(plan) != 0 {
			t.Errorf("%d: Hollow: %d; Fewest = %v, %d, not %d", i, f, plan, g, c.e)
		}
	}
}

// P5.4: the last ring alone sets in the last minute in the warmest truth, or just not any more, and all others, and it in other truths, do so before.
func TestTheLastRingInTheLastMinute(t *testing.T) {
	m := api.MdMould{Rings: 8, Give: 10, Pour: span(2000, 2000), Wall: span(0, 1000), Shrink: 1, Skin: 8, Fill: 1, Gap: 1, Deep: 64}
	late := course(m, warmest(m, 600))
	m.Set = late[600][7]
	cold := setsIn(m, course(m, coldest(m, 600)))
	if late[599][7] <= m.Set || late[600][6] >= m.Set || cold[7] > 599 {
		t.Fatalf("%v, %v; %v", late[599], late[600], cold)
	}
	if got, e := mould.Sets(m); len(got) != 8 || got[7] != span(cold[7], 600) || got[6].Hi >= 600 || e != api.OK {
		t.Errorf("Sets = %v, %d", got, e)
	}
	if got, e := mould.Fewest(m); len(got) != 0 || e != api.OK {
		t.Errorf("Fewest = %v, %d", got, e)
	}
	m.Set--
	for _, at := range setsIn(m, course(m, coldest(m, 600))) {
		if at == never {
			t.Fatal("a ring never sets")
		}
	}
	if got, e := mould.Sets(m); len(got) != 0 || e != api.ErrDown {
		t.Errorf("Sets = %v, %d", got, e)
	}
	if got, e := mould.Fewest(m); len(got) != 0 || e != api.ErrDown {
		t.Errorf("Fewest = %v, %d", got, e)
	}
	if got, e := mould.Hollow(m, nil); got != (api.MdEnd{}) || e != api.ErrDown {
		t.Errorf("Hollow = %v, %d", got, e)
	}
	if got, e := mould.Skin(m, 600); got != span(7, 8) || e != api.OK {
		t.Errorf("Skin = %v, %d", got, e)
	}
}

// P5.4, and the examples of the chapter.
func TestSkin(t *testing.T) {
	warmed := with(func(m *api.MdMould) { m.Pour, m.Wall = span(500, 600), span(800, 800) })
	hot := with(func(m *api.MdMould) { m.Wall = span(200, 800) })
	for i, c := range []struct {
		m      api.MdMould
		minute int
		want   api.Span
	}{
		{example(), 0, span(0, 0)},
		{example(), 1, span(0, 1)},
		{example(), 2, span(0, 1)},
		{example(), 3, span(1, 1)},
		{example(), 4, span(1, 2)},
		{example(), 5, span(2, 2)},
		{example(), 6, span(2, 2)},
		{example(), 600, span(2, 2)},
		// From the minute 0 on, and for ever, also if it becomes warmer.
		{warmed, 0, span(0, 2)},
		{warmed, 1, span(0, 2)},
		{warmed, 600, span(0, 2)},
		// Rings that do not set in each truth are no error.
		{hot, 0, span(0, 0)},
		{hot, 1, span(0, 1)},
		{hot, 3, span(0, 1)},
		{hot, 4, span(0, 2)},
		{hot, 600, span(0, 2)},
		{slow(899), 600, span(0, 0)},
		{slow(900), 600, span(1, 1)},
		{slow(900), 599, span(0, 0)},
		{full(), 0, span(8, 8)},
	} {
		if got, e := mould.Skin(c.m, c.minute); got != c.want || e != api.OK {
			t.Errorf("%d: Skin = %v, %d, not %v", i, got, e, c.want)
		}
	}
}

// P5.5, and the examples of the chapter.
func TestHollow(t *testing.T) {
	open := func(change func(m *api.MdMould)) api.MdMould {
		return with(func(m *api.MdMould) { m.Skin = 2; change(m) })
	}
	for i, c := range []struct {
		m    api.MdMould
		plan []int
		want api.MdEnd
		e    api.Errno
	}{
		{example(), nil, end(span(400, 400), span(0, 0)), api.OK},
		{example(), []int{2}, end(span(150, 400), span(0, 250)), api.OK},
		{example(), []int{3}, end(span(150, 150), span(250, 250)), api.OK},
		{example(), []int{2, 3}, end(span(100, 150), span(250, 300)), api.OK},
		// What shrinks in a minute is topped up in it, and not before.
		{example(), []int{0}, end(span(400, 400), span(0, 0)), api.OK},
		{example(), []int{1}, end(span(150, 400), span(0, 250)), api.OK},
		{example(), []int{0, 1, 2, 3}, end(span(100, 150), span(250, 300)), api.OK},
		{example(), []int{1, 2}, end(span(100, 400), span(0, 300)), api.OK},
		{example(), []int{1, 3}, end(span(100, 150), span(250, 300)), api.OK},
		{with(func(m *api.MdMould) { m.Fill = 300 }), []int{2}, end(span(100, 400), span(0, 300)), api.OK},
		{with(func(m *api.MdMould) { m.Fill = 301 }), []int{3}, end(span(100, 100), span(300, 300)), api.OK},
		{with(func(m *api.MdMould) { m.Fill = 100000 }), []int{2, 3}, end(span(100, 100), span(300, 300)), api.OK},
		{with(func(m *api.MdMould) { m.Fill = 1 }), []int{0, 1, 2, 3}, end(span(397, 399), span(1, 3)), api.OK},
		// What is poured where there is no hollow is nothing, and does not help later.
		{open(func(m *api.MdMould) { m.Fill = 350 }), []int{3, 5}, end(span(0, 0), span(400, 400)), api.OK},
		{open(func(m *api.MdMould) { m.Fill = 350 }), []int{3, 4}, end(span(0, 100), span(300, 400)), api.OK},
		// The skin is too thick in some truth, or in each.
		{example(), []int{4}, api.MdEnd{}, api.ErrDown},
		{example(), []int{5}, api.MdEnd{}, api.ErrDown},
		{example(), []int{600}, api.MdEnd{}, api.ErrDown},
		{example(), []int{2, 4}, api.MdEnd{}, api.ErrDown},
		{example(), []int{2, 3, 4}, api.MdEnd{}, api.ErrDown},
		{with(func(m *api.MdMould) { m.Skin = 0 }), []int{0}, end(span(400, 400), span(0, 0)), api.OK},
		{with(func(m *api.MdMould) { m.Skin = 0 }), []int{1}, api.MdEnd{}, api.ErrDown},
		{with(func(m *api.MdMould) { m.Skin = 0 }), nil, end(span(400, 400), span(0, 0)), api.OK},
		{open(func(m *api.MdMould) {}), []int{4}, end(span(150, 150), span(250, 250)), api.OK},
		{open(func(m *api.MdMould) {}), []int{600}, end(span(150, 150), span(250, 250)), api.OK},
		{open(func(m *api.MdMould) {}), []int{599, 600}, end(span(0, 0), span(400, 400)), api.OK},
		{open(func(m *api.MdMould) {}), []int{3, 4}, end(span(0, 100), span(300, 400)), api.OK},
		// Rings that set in the minute 0.
		{with(func(m *api.MdMould) { m.Set = 800 }), nil, end(span(400, 400), span(0, 0)), api.OK},
		{with(func(m *api.MdMould) { m.Set = 800 }), []int{0}, api.MdEnd{}, api.ErrDown},
		{open(func(m *api.MdMould) { m.Set = 800 }), []int{0}, end(span(150, 150), span(250, 250)), api.OK},
		{open(func(m *api.MdMould) { m.Set = 800 }), []int{0, 1}, end(span(0, 0), span(400, 400)), api.OK},
		// Nothing shrinks.
		{with(func(m *api.MdMould) { m.Shrink = 0 }), nil, end(span(0, 0), span(0, 0)), api.OK},
		{with(func(m *api.MdMould) { m.Shrink = 0 }), []int{3}, end(span(0, 0), span(0, 0)), api.OK},
		// In the last minute.
		{slow(900), []int{600}, end(span(99, 99), span(1, 1)), api.OK},
		{slow(900), []int{599}, end(span(100, 100), span(0, 0)), api.OK},
		{slow(900), []int{599, 600}, end(span(99, 99), span(1, 1)), api.OK},
		{slow(901), []int{599, 600}, end(span(98, 98), span(2, 2)), api.OK},
	} {
		if got, e := mould.Hollow(c.m, c.plan); got != c.want || e != c.e {
			t.Errorf("%d: Hollow = %v, %d, not %v, %d", i, got, e, c.want, c.e)
		}
	}
}

// P5.5: what each ring shrinks, of each number of rings.
func TestVolumes(t *testing.T) {
	for rings, want := range map[int]int{1: 1, 2: 4, 3: 9, 4: 16, 5: 25, 6: 36, 7: 49, 8: 64} {
		m := with(func(m *api.MdMould) { m.Rings, m.Shrink = rings, 200 })
		if got, e := mould.Hollow(m, nil); got != end(span(200*want, 200*want), span(0, 0)) || e != api.OK {
			t.Errorf("%d rings: Hollow = %v, %d", rings, got, e)
		}
	}
	// A topping in each minute in which a ring has just set pours what this one shrinks.
	m := with(func(m *api.MdMould) { m.Rings, m.Skin, m.Fill, m.Wall = 4, 4, 100000, span(200, 200) })
	before := 1600
	for i, at := range setsIn(m, course(m, coldest(m, 600))) {
		before -= []int{700, 500, 300, 100}[i]
		if got, e := mould.Hollow(m, []int{at}); got != end(span(before, before), span(1600-before, 1600-before)) || e != api.OK {
			t.Errorf("the ring %d: Hollow = %v, %d", i, got, e)
		}
	}
}

// P5.6, and the examples of the chapter.
func TestFewest(t *testing.T) {
	every := func(gap, many int) []int {
		var plan []int
		for i := range many {
			plan = slices.Insert(plan, 0, 600-i*gap)
		}
		return plan
	}
	soon := slow(2000)
	for i, c := range []struct {
		m    api.MdMould
		want []int
		e    api.Errno
	}{
		{example(), []int{3}, api.OK},
		{with(func(m *api.MdMould) { m.Deep = 400 }), nil, api.OK},
		{with(func(m *api.MdMould) { m.Deep = 399 }), []int{3}, api.OK},
		{with(func(m *api.MdMould) { m.Deep = 149 }), nil, api.ErrDown},
		{with(func(m *api.MdMould) { m.Fill = 200 }), nil, api.ErrDown},
		{with(func(m *api.MdMould) { m.Fill, m.Deep = 300, 100 }), []int{3}, api.OK},
		{with(func(m *api.MdMould) { m.Fill, m.Deep = 300, 99 }), nil, api.ErrDown},
		{with(func(m *api.MdMould) { m.Fill = 100000 }), []int{3}, api.OK},
		// The skin of the coldest truth counts.
		{with(func(m *api.MdMould) { m.Skin, m.Deep = 0, 399 }), nil, api.ErrDown},
		{with(func(m *api.MdMould) { m.Skin, m.Deep = 0, 400 }), nil, api.OK},
		{with(func(m *api.MdMould) { m.Set, m.Deep = 800, 399 }), nil, api.ErrDown},
		{with(func(m *api.MdMould) { m.Set, m.Deep, m.Skin = 800, 399, 0 }), nil, api.ErrDown},
		{with(func(m *api.MdMould) { m.Set, m.Deep = 800, 400 }), nil, api.OK},
		// The wall at 300 alone: the rings set in 3 and 5.
		{with(func(m *api.MdMould) { m.Wall.Lo = 300 }), []int{4}, api.OK},
		{with(func(m *api.MdMould) { m.Wall.Lo, m.Fill = 300, 125 }), []int{3, 4}, api.OK},
		{with(func(m *api.MdMould) { m.Wall.Lo, m.Fill, m.Deep = 300, 125, 275 }), []int{4}, api.OK},
		{with(func(m *api.MdMould) { m.Wall.Lo, m.Fill, m.Gap = 300, 125, 2 }), nil, api.ErrDown},
		// As late as it can be, also when all has set; with the gap between.
		{with(func(m *api.MdMould) { m.Skin = 2 }), []int{600}, api.OK},
		{with(func(m *api.MdMould) { m.Skin, m.Deep = 2, 149 }), []int{599, 600}, api.OK},
		{with(func(m *api.MdMould) { m.Skin, m.Deep = 2, 0 }), []int{599, 600}, api.OK},
		{with(func(m *api.MdMould) { m.Skin, m.Deep, m.Gap = 2, 0, 60 }), []int{540, 600}, api.OK},
		{with(func(m *api.MdMould) { m.Skin, m.Deep, m.Gap, m.Fill = 2, 0, 7, 100 }), []int{579, 586, 593, 600}, api.OK},
		// At most 40 toppings, and as many as the gap lets there be.
		{with(func(m *api.MdMould) { m.Skin, m.Deep, m.Fill = 2, 0, 10 }), every(1, 40), api.OK},
		{with(func(m *api.MdMould) { m.Skin, m.Deep, m.Fill, m.Shrink = 2, 3, 10, 101 }), nil, api.ErrDown},
		{with(func(m *api.MdMould) { m.Skin, m.Deep, m.Fill, m.Shrink = 2, 4, 10, 101 }), every(1, 40), api.OK},
		{with(func(m *api.MdMould) { m.Skin, m.Deep, m.Fill, m.Gap = 2, 0, 10, 15 }), every(15, 40), api.OK},
		// With 16 minutes between two there is room for 38, the first one in the minute 8, when all has set.
		{with(func(m *api.MdMould) { m.Skin, m.Deep, m.Fill, m.Gap = 2, 20, 10, 16 }), every(16, 38), api.OK},
		{with(func(m *api.MdMould) { m.Skin, m.Deep, m.Fill, m.Gap = 2, 19, 10, 16 }), nil, api.ErrDown},
		{with(func(m *api.MdMould) { m.Skin, m.Deep, m.Fill, m.Gap = 2, 300, 10, 60 }), every(60, 10), api.OK},
		// The eleventh is in the minute 0, when nothing has set.
		{with(func(m *api.MdMould) { m.Skin, m.Deep, m.Fill, m.Gap = 2, 299, 10, 60 }), nil, api.ErrDown},
		{with(func(m *api.MdMould) { m.Skin, m.Deep, m.Fill, m.Gap, m.Set = 2, 290, 10, 60, 800 }), every(60, 11), api.OK},
		{with(func(m *api.MdMould) { m.Skin, m.Deep, m.Fill, m.Gap, m.Set = 2, 289, 10, 60, 800 }), nil, api.ErrDown},
		{soon, nil, api.OK},
		// Nothing shrinks.
		{with(func(m *api.MdMould) { m.Shrink, m.Deep = 0, 0 }), nil, api.OK},
		// Rings that do not set.
		{with(func(m *api.MdMould) { m.Wall.Hi, m.Deep = 800, 400 }), nil, api.ErrDown},
	} {
		if got, e := mould.Fewest(c.m); !slices.Equal(got, c.want) || e != c.e {
			t.Errorf("%d: Fewest = %v, %d, not %v, %d", i, got, e, c.want, c.e)
		}
	}
}
