package mould_test

import (
	"math/rand"
	"slices"
	"testing"

	"stearin/api"
	"stearin/mould"
)

// put is the least range with another number, or one of it alone, if there are none yet.
func put(s api.Span, n int, first bool) api.Span {
	if first {
		return span(n, n)
	}
	return span(min(s.Lo, n), max(s.Hi, n))
}

// known is what is known of a small mould from all its truths of some minutes.
type known struct {
	warm [][]api.Span
	skin []api.Span
	// ways are all the minutes in which the rings can set, each of them once.
	ways [][]int
	// done is whether all rings set in each truth.
	done bool
}

// knownOf tries all truths of a mould.
func knownOf(m api.MdMould, minutes int) known {
	k := known{warm: make([][]api.Span, minutes+1), skin: make([]api.Span, minutes+1), done: true}
	for i := range k.warm {
		k.warm[i] = make([]api.Span, m.Rings)
	}
	ways := map[[3]int][]int{}
	first := true
	for t := range truths(m, minutes) {
		c := course(m, t)
		sets := setsIn(m, c)
		for minute, rings := range c {
			for ring, n := range rings {
				k.warm[minute][ring] = put(k.warm[minute][ring], n, first)
			}
			k.skin[minute] = put(k.skin[minute], skinIn(sets, minute), first)
		}
		k.done = k.done && !slices.Contains(sets, never)
		var key [3]int
		copy(key[:], sets)
		ways[key] = sets
		first = false
	}
	for _, sets := range ways {
		k.ways = append(k.ways, sets)
	}
	return k
}

// sets are the ranges of the minutes in which the rings set.
func (k known) sets(m api.MdMould) []api.Span {
	list := make([]api.Span, m.Rings)
	for i, sets := range k.ways {
		for ring, at := range sets {
			list[ring] = put(list[ring], at, i == 0)
		}
	}
	return list
}

// end is the hollow of a plan in the end, and what is poured; it is not ok if the plan cannot be poured in some truth.
func (k known) end(m api.MdMould, plan []int) (e api.MdEnd, ok bool) {
	for i, sets := range k.ways {
		hollow, poured, can := fate(m, sets, plan)
		if !can {
			return api.MdEnd{}, false
		}
		e = end(put(e.Hollow, hollow, i == 0), put(e.Poured, poured, i == 0))
	}
	return e, true
}

// P5.3, P5.4, P5.5, P5.6, P5.7, P5.8, P5.9, P5.10: all truths of small moulds, and all plans of few minutes.
func TestAllTruthsAndAllPlans(t *testing.T) {
	const minutes = 5
	r := rand.New(rand.NewSource(57))
	whole, wide, sound, none, toppings := 0, 0, 0, 0, map[int]int{}
	for range 6000 {
		m := anySmall(r)
		k := knownOf(m, minutes)
		for minute := range minutes + 1 {
			if got, e := mould.Warm(m, minute); !slices.Equal(got, k.warm[minute]) || e != api.OK {
				t.Fatalf("%v: Warm after %d minutes = %v, %d, not %v", m, minute, got, e, k.warm[minute])
			}
			if got, e := mould.Skin(m, minute); got != k.skin[minute] || e != api.OK {
				t.Fatalf("%v: Skin in the minute %d = %v, %d, not %v", m, minute, got, e, k.skin[minute])
			}
		}
		got, e := mould.Sets(m)
		if !k.done {
			if e != api.ErrDown && !slices.ContainsFunc(got, func(s api.Span) bool { return s.Hi > minutes }) {
				t.Fatalf("%v: Sets = %v, %d", m, got, e)
			}
			continue
		}
		if !slices.Equal(got, k.sets(m)) || e != api.OK {
			t.Fatalf("%v: Sets = %v, %d, not %v", m, got, e, k.sets(m))
		}
		whole++
		if len(k.ways) > 2 {
			wide++
		}
		for range 10 {
			plan := anyPlan(r, m, minutes+1)
			want, ok := k.end(m, plan)
			got, e := mould.Hollow(m, plan)
			if got != want || ok != (e == api.OK) || !ok && e != api.ErrDown {
				t.Fatalf("%v, %v: Hollow = %v, %d, not %v, %t", m, plan, got, e, want, ok)
			}
		}
		best, exists, all := firstSound(m, k, minutes)
		if !all {
			continue
		}
		plan, e := mould.Fewest(m)
		if !slices.Equal(plan, best) || exists != (e == api.OK) || !exists && e != api.ErrDown {
			t.Fatalf("%v: Fewest = %v, %d, not %v, %t", m, plan, e, best, exists)
		}
		if exists {
			sound++
			toppings[len(best)]++
		} else {
			none++
		}
	}
	if whole < 2000 || wide < 300 || sound < 500 || none < 500 || toppings[1] < 100 || toppings[2] < 20 {
		t.Errorf("just %d moulds whose rings all set, %d of them in several ways; %d with a sound plan, %d without one; of how many toppings: %v", whole, wide, sound, none, toppings)
	}
}

// firstSound is the first sound plan of all there are, if there is one; not all of them are tried if the skin never is too thick.
func firstSound(m api.MdMould, k known, minutes int) (best []int, exists, all bool) {
	if m.Skin == m.Rings {
		return nil, false, false
	}
	// After so many minutes all rings have set, and the skin is too thick.
	for plan := range plans(m, minutes) {
		if e, ok := k.end(m, plan); ok && e.Hollow.Hi <= m.Deep {
			return plan, true, true
		}
	}
	return nil, false, true
}

// P5.2: Cool is as the definition says, also of many rings and minutes.
func TestCoolIsAsDefined(t *testing.T) {
	eachMould(52, 1500, func(r *rand.Rand, m api.MdMould) {
		minutes := r.Intn(40)
		if r.Intn(10) == 0 {
			minutes = within(r, span(500, 600))
		}
		truth := anyTruth(r, m, minutes)
		want := course(m, truth)[minutes]
		if got, e := mould.Cool(m, truth); !slices.Equal(got, want) || e != api.OK {
			t.Fatalf("%v, %v: Cool = %v, %d, not %v", m, truth, got, e, want)
		}
	})
}

// P5.7: in a random truth no ring is less warm or warmer than Warm says, none sets earlier or later than Sets says, and no skin is thinner or thicker than Skin says.
func TestNoTruthIsMissed(t *testing.T) {
	set := 0
	eachMould(570, 800, func(r *rand.Rand, m api.MdMould) {
		sets, e := mould.Sets(m)
		truth := anyTruth(r, m, 600)
		c := course(m, truth)
		real := setsIn(m, c)
		for ring, at := range real {
			if e == api.OK && (at < sets[ring].Lo || at > sets[ring].Hi) {
				t.Fatalf("%v, %v: the rings set in %v; Sets = %v", m, truth, real, sets)
			}
		}
		if e == api.OK {
			set++
		}
		for _, minute := range []int{0, 1, r.Intn(10), r.Intn(60), r.Intn(601), 600} {
			a := allOf(m, minute)
			if skin := skinIn(real, minute); skin < a.skin.Lo || skin > a.skin.Hi {
				t.Fatalf("%v, %v: Skin in the minute %d = %v, not %d", m, truth, minute, a.skin, skin)
			}
			for ring, n := range c[minute] {
				if len(a.warm) != m.Rings || n < a.warm[ring].Lo || n > a.warm[ring].Hi {
					t.Fatalf("%v, %v: Warm after %d minutes = %v, not %v", m, truth, minute, a.warm, c[minute])
				}
			}
		}
	})
	if set < 400 {
		t.Errorf("just %d moulds whose rings all set", set)
	}
}

// P5.7: the ends of all ranges are those of the truths in which all is as cold, or as warm, as it can be.
func TestEachEndIsReached(t *testing.T) {
	down, wide := 0, 0
	eachMould(571, 800, func(r *rand.Rand, m api.MdMould) {
		cold, warm := course(m, coldest(m, 600)), course(m, warmest(m, 600))
		early, late := setsIn(m, cold), setsIn(m, warm)
		for _, minute := range []int{0, 1, r.Intn(10), r.Intn(60), r.Intn(601), 600} {
			a := allOf(m, minute)
			if a.skin != span(skinIn(late, minute), skinIn(early, minute)) {
				t.Fatalf("%v: Skin in the minute %d = %v", m, minute, a.skin)
			}
			for ring := range m.Rings {
				if len(a.warm) != m.Rings || a.warm[ring] != span(cold[minute][ring], warm[minute][ring]) {
					t.Fatalf("%v: Warm after %d minutes = %v, not %v to %v", m, minute, a.warm, cold[minute], warm[minute])
				}
			}
		}
		sets, e := mould.Sets(m)
		if slices.Contains(late, never) {
			down++
			if len(sets) != 0 || e != api.ErrDown {
				t.Fatalf("%v: Sets = %v, %d", m, sets, e)
			}
			return
		}
		for ring := range m.Rings {
			if e != api.OK || sets[ring] != span(early[ring], late[ring]) {
				t.Fatalf("%v: Sets = %v, %d, not %v to %v", m, sets, e, early, late)
			}
			if early[ring] < late[ring] {
				wide++
			}
		}
	})
	if down < 30 || wide < 500 {
		t.Errorf("just %d moulds with rings that do not set, and %d rings with several minutes", down, wide)
	}
}

// P5.8, P5.10: in a random truth the hollow in the end, and what is poured, are in the ranges of Hollow, whose ends are reached, and are together what all rings shrink.
func TestHollowOfARandomTruth(t *testing.T) {
	poured, wide, closed := 0, 0, 0
	eachSetting(58, 1500, func(r *rand.Rand, m api.MdMould, cold, warm []int) {
		last := lastOpen(m, cold)
		if r.Intn(10) == 0 {
			last = 600
		}
		plan := anyPlan(r, m, min(last, warm[0]+r.Intn(200)))
		got, e := mould.Hollow(m, plan)
		less, more, ok := fate(m, cold, plan)
		if !ok {
			closed++
			if e != api.ErrDown || got != (api.MdEnd{}) {
				t.Fatalf("%v, %v: Hollow = %v, %d", m, plan, got, e)
			}
			return
		}
		most, least, _ := fate(m, warm, plan)
		if got != end(span(less, most), span(least, more)) || e != api.OK {
			t.Fatalf("%v, %v: Hollow = %v, %d, not %d to %d, %d to %d", m, plan, got, e, less, most, least, more)
		}
		if all := shrinkage(m); got.Hollow.Lo+got.Poured.Hi != all || got.Hollow.Hi+got.Poured.Lo != all {
			t.Fatalf("%v, %v: Hollow = %v; %d shrinks", m, plan, got, all)
		}
		if least > 0 {
			poured++
		}
		if less < most {
			wide++
		}
		for range 3 {
			truth := anyTruth(r, m, 600)
			hollow, fill, ok := fate(m, setsIn(m, course(m, truth)), plan)
			if !ok || hollow < got.Hollow.Lo || hollow > got.Hollow.Hi || fill < got.Poured.Lo || fill > got.Poured.Hi || hollow+fill != shrinkage(m) {
				t.Fatalf("%v, %v, %v: Hollow = %v; %d, %d, %t", m, plan, truth, got, hollow, fill, ok)
			}
		}
	})
	if poured < 500 || wide < 300 || closed < 50 {
		t.Errorf("just %d plans that pour something, %d with a range of hollows, %d that cannot be poured", poured, wide, closed)
	}
}

// needing is a mould whose rings set as those of another one, and that most often needs several toppings: what they leave is just as deep as it can be, or a little less, or more.
func needing(r *rand.Rand, m api.MdMould, cold, warm []int) api.MdMould {
	m.Skin = max(1, m.Skin)
	last, count := lastOpen(m, cold), r.Intn(41)
	if r.Intn(2) == 0 {
		count = r.Intn(6)
	}
	m.Gap = 1 + r.Intn(min(60, 1+max(0, last)/(1+count)))
	m.Fill = 1 + r.Intn(2)*r.Intn(50) + shrinkage(m)/(1+count)
	var plan []int
	for minute := last; minute >= 0 && len(plan) < count; minute -= m.Gap {
		plan = slices.Insert(plan, 0, minute)
	}
	left, _, _ := fate(m, warm, plan)
	m.Deep = max(0, left-1+r.Intn(3)+r.Intn(2)*r.Intn(50))
	return m
}

// P5.6, P5.8, P5.9: the plan of Fewest is the best one, and with it no hollow reaches the wick.
func TestFewestIsTheBest(t *testing.T) {
	down, many := 0, map[int]int{}
	eachSetting(59, 4000, func(r *rand.Rand, m api.MdMould, cold, warm []int) {
		if r.Intn(4) > 0 {
			m = needing(r, m, cold, warm)
		}
		want, exists := bestPlan(m, cold, warm)
		got, e := mould.Fewest(m)
		if !slices.Equal(got, want) || exists != (e == api.OK) || !exists && e != api.ErrDown {
			t.Fatalf("%v: Fewest = %v, %d, not %v, %t", m, got, e, want, exists)
		}
		if !exists {
			down++
			return
		}
		many[len(got)]++
		if left, e := mould.Hollow(m, got); e != api.OK || left.Hollow.Hi > m.Deep {
			t.Fatalf("%v: Fewest = %v; Hollow = %v, %d", m, got, left, e)
		}
		truth := anyTruth(r, m, 600)
		if hollow, _, ok := fate(m, setsIn(m, course(m, truth)), got); !ok || hollow > m.Deep {
			t.Fatalf("%v, %v: Fewest = %v; a hollow of %d, %t", m, truth, got, hollow, ok)
		}
	})
	most := 0
	for n, times := range many {
		if n > 10 {
			most += times
		}
	}
	if down < 300 || many[0] < 100 || many[1] < 200 || many[2] < 100 || many[3] < 50 || most < 100 {
		t.Errorf("just %d without a sound plan; of how many toppings: %v", down, many)
	}
}

// warmer is a truth of a mould that is nowhere less warm than another one.
func warmer(r *rand.Rand, m api.MdMould, t api.MdTruth) api.MdTruth {
	more := api.MdTruth{Pour: slices.Clone(t.Pour), Wall: slices.Clone(t.Wall)}
	for i, n := range t.Pour {
		if r.Intn(2) == 0 {
			more.Pour[i] = within(r, span(n, m.Pour.Hi))
		}
	}
	for i, n := range t.Wall {
		if r.Intn(3) == 0 {
			more.Wall[i] = within(r, span(n, m.Wall.Hi))
		}
	}
	return more
}

// minutesOf are the minutes in which the rings set in a truth, by Cool.
func minutesOf(m api.MdMould, truth api.MdTruth) []int {
	var c [][]int
	for minute := range len(truth.Wall) + 1 {
		now, _ := mould.Cool(m, api.MdTruth{Pour: truth.Pour, Wall: truth.Wall[:minute]})
		c = append(c, now)
	}
	return setsIn(m, c)
}

// P5.11
func TestWarmerIsNotLessWarm(t *testing.T) {
	real, later := 0, 0
	eachMould(511, 1000, func(r *rand.Rand, m api.MdMould) {
		truth := anyTruth(r, m, r.Intn(60))
		more := warmer(r, m, truth)
		a, e := mould.Cool(m, truth)
		b, f := mould.Cool(m, more)
		if e != api.OK || f != api.OK || len(a) != m.Rings || len(b) != m.Rings {
			t.Fatalf("%v, %v: Cool = %v, %d; %v: %v, %d", m, truth, a, e, more, b, f)
		}
		early, late := minutesOf(m, truth), minutesOf(m, more)
		for ring := range m.Rings {
			if b[ring] < a[ring] || late[ring] < early[ring] {
				t.Fatalf("%v, %v: Cool = %v; %v: %v; the rings set in %v, %v", m, truth, a, more, b, early, late)
			}
		}
		if !slices.Equal(a, b) {
			real++
		}
		if !slices.Equal(early, late) {
			later++
		}
	})
	if real < 400 || later < 100 {
		t.Errorf("just %d truths that are really warmer, and %d in which rings set later", real, later)
	}
}

// P5.12
func TestEvenWarmthStays(t *testing.T) {
	eachMould(512, 1000, func(r *rand.Rand, m api.MdMould) {
		n := r.Intn(2001)
		m.Pour, m.Wall = span(n, n), span(n, n)
		want := slices.Repeat([]api.Span{span(n, n)}, m.Rings)
		for _, minutes := range []int{0, 1, r.Intn(601), 600} {
			if got, e := mould.Cool(m, steady(m, n, n, minutes)); !slices.Equal(got, wall(n, m.Rings)) || e != api.OK {
				t.Fatalf("%v: Cool = %v, %d", m, got, e)
			}
			if got, e := mould.Warm(m, minutes); !slices.Equal(got, want) || e != api.OK {
				t.Fatalf("%v: Warm after %d minutes = %v, %d", m, minutes, got, e)
			}
		}
		// So a ring sets in the minute 0, or never.
		got, e := mould.Sets(m)
		if n <= m.Set && (!slices.Equal(got, make([]api.Span, m.Rings)) || e != api.OK) || n > m.Set && (len(got) != 0 || e != api.ErrDown) {
			t.Fatalf("%v: Sets = %v, %d", m, got, e)
		}
	})
}

// P5.13: with a topping more, or one that is later, the hollow in the end is nowhere deeper.
func TestLaterAndMoreIsNotDeeper(t *testing.T) {
	less := 0
	eachSetting(513, 2000, func(r *rand.Rand, m api.MdMould, cold, warm []int) {
		last := lastOpen(m, cold)
		plan := anyPlan(r, m, min(last, warm[m.Rings-1]+10))
		before, e := mould.Hollow(m, plan)
		other := slices.Clone(plan)
		if len(plan) > 0 && r.Intn(2) == 0 {
			at := r.Intn(len(plan))
			latest := last
			if at+1 < len(plan) {
				latest = plan[at+1] - m.Gap
			}
			other[at] = within(r, span(plan[at], latest))
		} else {
			other = slices.Insert(other, r.Intn(len(plan)+1), r.Intn(last+2))
		}
		after, f := mould.Hollow(m, other)
		if e != api.OK {
			t.Fatalf("%v, %v: Hollow = %v, %d", m, plan, before, e)
		}
		if f != api.OK {
			return
		}
		if after.Hollow.Lo > before.Hollow.Lo || after.Hollow.Hi > before.Hollow.Hi {
			t.Fatalf("%v, %v: Hollow = %v; %v: %v", m, plan, before, other, after)
		}
		if after.Hollow.Hi < before.Hollow.Hi {
			less++
		}
	})
	if less < 200 {
		t.Errorf("just %d times really less deep", less)
	}
}

// P5.13: with a wider Pour or Wall no range is narrower.
func TestWiderIsToldWider(t *testing.T) {
	holds := func(s, other api.Span) bool { return other.Lo <= s.Lo && s.Hi <= other.Hi }
	allHold := func(list, others []api.Span) bool {
		for i, s := range list {
			if i >= len(others) || !holds(s, others[i]) {
				return false
			}
		}
		return true
	}
	wider := 0
	eachMould(5130, 1500, func(r *rand.Rand, m api.MdMould) {
		more := m
		if r.Intn(2) == 0 {
			more.Pour = span(max(0, m.Pour.Lo-r.Intn(60)), min(2000, m.Pour.Hi+r.Intn(60)))
		} else {
			more.Wall = span(max(0, m.Wall.Lo-r.Intn(60)), min(2000, m.Wall.Hi+r.Intn(60)))
		}
		minute := r.Intn(40)
		a, b := allOf(m, minute), allOf(more, minute)
		if len(a.warm) != m.Rings || !allHold(a.warm, b.warm) || !holds(a.skin, b.skin) {
			t.Fatalf("%v: %v; %v: %v", m, a, more, b)
		}
		if b.setsError == api.ErrDown {
			return
		}
		if a.setsError != api.OK || !allHold(a.sets, b.sets) {
			t.Fatalf("%v: %v; %v: %v", m, a, more, b)
		}
		plan := anyPlan(r, m, minute)
		x, e := mould.Hollow(m, plan)
		y, f := mould.Hollow(more, plan)
		if f == api.OK && (e != api.OK || !holds(x.Hollow, y.Hollow) || !holds(x.Poured, y.Poured)) {
			t.Fatalf("%v, %v: Hollow = %v, %d; %v: %v, %d", m, plan, x, e, more, y, f)
		}
		if !slices.Equal(a.warm, b.warm) && !slices.Equal(a.sets, b.sets) {
			wider++
		}
	})
	if wider < 300 {
		t.Errorf("just %d times really wider", wider)
	}
}

// P5.14
func TestTheSkinDoesNotBecomeThinner(t *testing.T) {
	grown := 0
	eachMould(514, 300, func(r *rand.Rand, m api.MdMould) {
		if r.Intn(2) == 0 {
			// Wax that is warmed after it has set.
			m.Pour, m.Wall = m.Wall, m.Pour
			m.Set = within(r, m.Pour)
		}
		before := api.Span{}
		for minute := range 601 {
			now, e := mould.Skin(m, minute)
			if e != api.OK || now.Lo < before.Lo || now.Hi < before.Hi {
				t.Fatalf("%v: Skin in the minute %d = %v, %d, after %v", m, minute, now, e, before)
			}
			if now != before {
				grown++
			}
			before = now
		}
	})
	if grown < 300 {
		t.Errorf("just %d times really thicker", grown)
	}
}
