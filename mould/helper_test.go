package mould_test

import (
	"iter"
	"math"
	"math/rand"
	"slices"

	"stearin/api"
	"stearin/mould"
)

// span is the range from one number to another one.
func span(lo, hi int) api.Span { return api.Span{Lo: lo, Hi: hi} }

// end is a hollow in the end, and what is poured.
func end(hollow, poured api.Span) api.MdEnd { return api.MdEnd{Hollow: hollow, Poured: poured} }

// example is the mould M of the chapter.
func example() api.MdMould {
	return api.MdMould{Rings: 2, Give: 500, Pour: span(800, 800), Wall: span(200, 300), Set: 540, Shrink: 100, Skin: 1, Fill: 250, Gap: 1, Deep: 150}
}

// with is the example with a change.
func with(change func(m *api.MdMould)) api.MdMould {
	m := example()
	change(&m)
	return m
}

// full is a mould with as much as there can be, whose rings all set.
func full() api.MdMould {
	return api.MdMould{Rings: 8, Give: 500, Pour: span(0, 2000), Wall: span(0, 2000), Set: 2000, Shrink: 200, Skin: 8, Fill: 100000, Gap: 60, Deep: 100000}
}

// outside are numbers of which none is from least to most.
func outside(least, most int) []int {
	return []int{least - 1, most + 1, least - 1000000, most + 1000000, math.MinInt, math.MaxInt, math.MinInt32, math.MaxInt32}
}

// wall is a wall that has the same warmth for so many minutes.
func wall(warmth, minutes int) []int { return slices.Repeat([]int{warmth}, minutes) }

// steady is the truth with all rings at one warmth, and the wall at another one for so many minutes.
func steady(m api.MdMould, pour, warmth, minutes int) api.MdTruth {
	return api.MdTruth{Pour: wall(pour, m.Rings), Wall: wall(warmth, minutes)}
}

// coldest and warmest are the truths with all at one end, for so many minutes.

func coldest(m api.MdMould, minutes int) api.MdTruth {
	return steady(m, m.Pour.Lo, m.Wall.Lo, minutes)
}

func warmest(m api.MdMould, minutes int) api.MdTruth {
	return steady(m, m.Pour.Hi, m.Wall.Hi, minutes)
}

// course is the warmth of the rings in each minute of a truth from 0 on, by the definition.
func course(m api.MdMould, t api.MdTruth) [][]int {
	list := [][]int{slices.Clone(t.Pour)}
	for minute, outer := range t.Wall {
		now := list[minute]
		all := slices.Concat([]int{outer}, now, []int{now[m.Rings-1]})
		var next []int
		for i := 1; i <= m.Rings; i++ {
			sum := m.Give*all[i-1] + m.Give*all[i+1] + (1000-m.Give-m.Give)*all[i]
			next = append(next, int(math.Floor(float64(sum)/1000)))
		}
		list = append(list, next)
	}
	return list
}

// never is the minute of a ring that does not set in a course.
const never = math.MaxInt

// setsIn is the minute in which each ring sets in a course.
func setsIn(m api.MdMould, c [][]int) []int {
	list := wall(never, m.Rings)
	for ring := range list {
		for minute := len(c) - 1; minute >= 0; minute-- {
			if c[minute][ring] <= m.Set {
				list[ring] = minute
			}
		}
	}
	return list
}

// skinIn is the skin in a minute, if the rings set like this.
func skinIn(sets []int, minute int) int {
	n := 0
	for _, at := range sets {
		if at <= minute {
			n++
		}
	}
	return n
}

// shrinkage is what all rings shrink.
func shrinkage(m api.MdMould) int {
	all := 0
	for ring := range m.Rings {
		all += volume(m, ring) * m.Shrink
	}
	return all
}

// volume is the volume of a ring.
func volume(m api.MdMould, ring int) int {
	v := 1
	for behind := ring + 1; behind < m.Rings; behind++ {
		v += 2
	}
	return v
}

// fate is the hollow in the end and what is poured, if the rings set like this, minute by minute; it is not ok if the plan cannot be poured.
func fate(m api.MdMould, sets, plan []int) (hollow, poured int, ok bool) {
	for minute := range 601 {
		for ring, at := range sets {
			if at == minute {
				hollow += m.Shrink * volume(m, ring)
			}
		}
		if slices.Contains(plan, minute) {
			if skinIn(sets, minute) > m.Skin {
				return 0, 0, false
			}
			before := hollow
			hollow = max(0, hollow-m.Fill)
			poured += before - hollow
		}
	}
	return hollow, poured, true
}

// counted yields all lists of numbers of some ranges.
func counted(ranges []api.Span) iter.Seq[[]int] {
	return func(yield func([]int) bool) {
		var list []int
		for _, s := range ranges {
			list = append(list, s.Lo)
		}
		for yield(slices.Clone(list)) {
			at := 0
			for at < len(list) && list[at] == ranges[at].Hi {
				list[at] = ranges[at].Lo
				at++
			}
			if at == len(list) {
				return
			}
			list[at]++
		}
	}
}

// truths yields all truths with so many minutes.
func truths(m api.MdMould, minutes int) iter.Seq[api.MdTruth] {
	return func(yield func(api.MdTruth) bool) {
		for pour := range counted(slices.Repeat([]api.Span{m.Pour}, m.Rings)) {
			for outer := range counted(slices.Repeat([]api.Span{m.Wall}, minutes)) {
				if !yield(api.MdTruth{Pour: pour, Wall: outer}) {
					return
				}
			}
		}
	}
}

// plans yields all plans with minutes up to the last one, at most 10 or so, the best ones first: those with fewer toppings, and of as many those whose last toppings are latest.
func plans(m api.MdMould, last int) iter.Seq[[]int] {
	return func(yield func([]int) bool) {
		var add func(left, latest int, behind []int) bool
		add = func(left, latest int, behind []int) bool {
			if left == 0 {
				return yield(slices.Clone(behind))
			}
			for minute := latest; minute >= 0; minute-- {
				if !add(left-1, minute-m.Gap, slices.Concat([]int{minute}, behind)) {
					return false
				}
			}
			return true
		}
		for many := range last + 2 {
			if !add(many, last, nil) {
				return
			}
		}
	}
}

// bestPlan is the best plan, if there is one, from the minutes in which the rings set if all is as cold, and as warm, as it can be. For each number of toppings, and each minute of the last one, the least hollow that there can be then is told.
func bestPlan(m api.MdMould, cold, warm []int) ([]int, bool) {
	var grown [601]int
	for minute := range grown {
		for ring, at := range warm {
			if at <= minute {
				grown[minute] += m.Shrink * volume(m, ring)
			}
		}
	}
	left := func(minute int) int { return m.Deep - (shrinkage(m) - grown[minute]) }
	if shrinkage(m) <= m.Deep {
		return nil, true
	}
	least := [][]int{nil}
	for many := 1; many <= 40; many++ {
		now := wall(never, 601)
		before := never
		for minute := range now {
			if many == 1 {
				before = 0
			} else if at := minute - m.Gap; at >= 0 && least[many-1][at] != never {
				before = min(before, least[many-1][at]-grown[at])
			}
			if before != never && skinIn(cold, minute) <= m.Skin {
				now[minute] = max(0, before+grown[minute]-m.Fill)
			}
		}
		least = append(least, now)
		for minute := 600; minute >= 0; minute-- {
			if now[minute] != never && now[minute] <= left(minute) {
				return stepBack(m, least, grown[:], minute, left(minute)), true
			}
		}
	}
	return nil, false
}

// stepBack is the plan whose last topping is in a minute, leaves at most so much, and is behind the latest one that there can be.
func stepBack(m api.MdMould, least [][]int, grown []int, minute, most int) []int {
	plan := []int{minute}
	for many := len(least) - 2; many >= 1; many-- {
		at := minute - m.Gap
		for least[many][at] == never || max(0, least[many][at]+grown[minute]-grown[at]-m.Fill) > most {
			at--
		}
		most += m.Fill - (grown[minute] - grown[at])
		minute = at
		plan = slices.Insert(plan, 0, minute)
	}
	return plan
}

// within is a random number of a range, often one of its ends.
func within(r *rand.Rand, s api.Span) int {
	switch r.Intn(4) {
	case 0:
		return s.Lo
	case 1:
		return s.Hi
	}
	return s.Lo + r.Intn(s.Hi-s.Lo+1)
}

// part is a random range within another one, with at most so many numbers.
func part(r *rand.Rand, s api.Span, most int) api.Span {
	lo := s.Lo + r.Intn(s.Hi-s.Lo+1)
	return span(lo, min(s.Hi, lo+r.Intn(most)))
}

// anySmall is a random mould with few rings and small numbers, so that all its truths of some minutes can be tried.
func anySmall(r *rand.Rand) api.MdMould {
	m := api.MdMould{
		Rings: 1 + r.Intn(3), Give: 150 + r.Intn(351), Pour: part(r, span(3, 10), 2), Wall: part(r, span(0, 3), 3),
		Shrink: r.Intn(21), Gap: 1 + r.Intn(2),
	}
	m.Set = m.Wall.Hi + r.Intn(4)
	m.Skin = r.Intn(m.Rings)
	all := shrinkage(m)
	m.Fill = 1 + r.Intn(1+all/(1+r.Intn(3)))
	m.Deep = max(r.Intn(1+all), r.Intn(1+all))
	switch r.Intn(10) {
	case 0:
		m.Wall, m.Set = part(r, span(0, 12), 3), r.Intn(12)
	case 1:
		m.Skin = m.Rings
	}
	return m
}

// anyMould is a random mould of any size, most often one whose rings all set.
func anyMould(r *rand.Rand) api.MdMould {
	m := api.MdMould{
		Rings: 1 + r.Intn(8), Give: 50 + r.Intn(451), Pour: part(r, span(600, 1000), 150), Wall: part(r, span(100, 500), 150), Set: 450 + r.Intn(200),
		Shrink: r.Intn(201), Fill: 1 + r.Intn(3000), Gap: 1 + r.Intn(60),
	}
	m.Skin = r.Intn(m.Rings + 1)
	m.Deep = r.Intn(1 + m.Shrink*m.Rings*m.Rings)
	if r.Intn(3) == 0 {
		m.Gap, m.Fill = 1+r.Intn(4), 1+r.Intn(300)
	}
	switch r.Intn(12) {
	case 0:
		m.Give = 1 + r.Intn(60)
	case 1:
		m.Pour, m.Wall, m.Set = part(r, span(0, 2000), 2001), part(r, span(0, 2000), 2001), r.Intn(2001)
	}
	return m
}

// anyTruth is a random truth with so many minutes; the wall often changes from one end to the other one.
func anyTruth(r *rand.Rand, m api.MdMould, minutes int) api.MdTruth {
	var t api.MdTruth
	for range m.Rings {
		t.Pour = append(t.Pour, within(r, m.Pour))
	}
	for range minutes {
		t.Wall = append(t.Wall, within(r, m.Wall))
	}
	return t
}

// anyPlan is a random plan, most often of a few toppings up to the last minute.
func anyPlan(r *rand.Rand, m api.MdMould, last int) []int {
	var plan []int
	for minute := r.Intn(last + 2); minute <= last && len(plan) < 40; minute += m.Gap + r.Intn(2)*r.Intn(last+1) {
		plan = append(plan, minute)
	}
	return plan
}

// eachMould calls a test with random moulds.
func eachMould(seed int64, times int, test func(r *rand.Rand, m api.MdMould)) {
	r := rand.New(rand.NewSource(seed))
	for range times {
		test(r, anyMould(r))
	}
}

// eachSetting calls a test with random moulds whose rings all set, and the minutes in which they do so if all is as cold, and as warm, as it can be.
func eachSetting(seed int64, times int, test func(r *rand.Rand, m api.MdMould, cold, warm []int)) {
	r := rand.New(rand.NewSource(seed))
	for left := times; left > 0; {
		m := anyMould(r)
		warm := setsIn(m, course(m, warmest(m, 600)))
		if !slices.Contains(warm, never) {
			left--
			test(r, m, setsIn(m, course(m, coldest(m, 600))), warm)
		}
	}
}

// lastOpen is the last minute in which the skin is not too thick if all is as cold as it can be, or -1.
func lastOpen(m api.MdMould, cold []int) int {
	minute := 600
	for minute >= 0 && skinIn(cold, minute) > m.Skin {
		minute--
	}
	return minute
}

// all are the results of the functions that have a range of each ring.
type all struct {
	warm, sets []api.Span
	skin       api.Span
	setsError  api.Errno
}

// allOf are these results of a mould; Warm and Skin are those of a minute.
func allOf(m api.MdMould, minute int) all {
	var a all
	a.warm, _ = mould.Warm(m, minute)
	a.sets, a.setsError = mould.Sets(m)
	a.skin, _ = mould.Skin(m, minute)
	return a
}
