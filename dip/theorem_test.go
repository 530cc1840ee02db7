package dip_test

import (
	"iter"
	"math/rand"
	"slices"
	"testing"

	"stearin/api"
	"stearin/dip"
)

// taken widens a range by a number, or begins it.
func taken(s api.Span, n int, first bool) api.Span {
	if first {
		return span(n, n)
	}
	return span(min(s.Lo, n), max(s.Hi, n))
}

// rangesOf are the least and the greatest top, foot and skew after each dip of these truths, and whether the taper is lost in one of them.
func rangesOf(x api.DpShop, t api.DpTaper, p []api.DpDip, all iter.Seq[[]int]) (list []api.DpRange, lost bool) {
	list = make([]api.DpRange, len(p))
	first := true
	for warm := range all {
		tapers, down := course(x, t, p, warm)
		lost = lost || down
		for i, y := range tapers {
			list[i] = api.DpRange{Top: taken(list[i].Top, y.Top, first), Foot: taken(list[i].Foot, y.Foot, first), Skew: taken(list[i].Skew, y.Foot-y.Top, first)}
		}
		first = false
	}
	return list, lost
}

// holds reports whether a taper is in the ranges of After.
func holds(r api.DpRange, t api.DpTaper) bool {
	return r.Top.Lo <= t.Top && t.Top <= r.Top.Hi && r.Foot.Lo <= t.Foot && t.Foot <= r.Foot.Hi && r.Skew.Lo <= t.Foot-t.Top && t.Foot-t.Top <= r.Skew.Hi
}

// P4.2, P4.3, P4.7: the ranges of After are just those of all truths, tried one by one; Follow tells the same of each of them.
func TestAllTruthsAreTold(t *testing.T) {
	sound, down := 0, 0
	eachCase(47, 2500, 4, 3, func(r *rand.Rand, x api.DpShop, start api.DpTaper, p []api.DpDip) {
		want, lost := rangesOf(x, start, p, truths(x, p))
		list, e := dip.After(x, start, p)
		if lost {
			down++
			if len(list) != 0 || e != api.ErrDown {
				t.Fatalf("%v, %v, %v: After = %v, %d", x, start, p, list, e)
			}
		} else {
			sound++
			if !slices.Equal(list, want) || e != api.OK {
				t.Fatalf("%v, %v, %v: After = %v, %d, not %v", x, start, p, list, e, want)
			}
		}
		for warm := range truths(x, p) {
			tapers, down := course(x, start, p, warm)
			end := append([]api.DpTaper{start}, tapers...)[len(p)]
			if down {
				end = api.DpTaper{}
			}
			if y, e := dip.Follow(x, start, p, warm); y != end || (e == api.ErrDown) != down || (e == api.OK) == down {
				t.Fatalf("%v, %v, %v, %v: Follow = %v, %d, not %v", x, start, p, warm, y, e, end)
			}
		}
	})
	if sound < 500 || down < 500 {
		t.Errorf("just %d sound plans, %d with which a taper can be lost", sound, down)
	}
}

// P4.7: with wide ranges and long plans, random truths are told.
func TestNoTruthIsMissed(t *testing.T) {
	eachSound(470, 1500, 30, 150, func(r *rand.Rand, x api.DpShop, start api.DpTaper, p []api.DpDip) {
		list, _ := dip.After(x, start, p)
		if len(list) != len(p) {
			t.Fatalf("%v, %v, %v: After = %v", x, start, p, list)
		}
		for range 20 {
			warm := anyTruth(r, x, p)
			tapers, lost := course(x, start, p, warm)
			for i, y := range tapers {
				if lost || !holds(list[i], y) {
					t.Fatalf("%v, %v, %v, %v: %v; After = %v", x, start, p, warm, tapers, list)
				}
			}
			if y, e := dip.Follow(x, start, p, warm); e != api.OK || len(p) > 0 && y != tapers[len(p)-1] {
				t.Fatalf("%v, %v, %v, %v: Follow = %v, %d", x, start, p, warm, y, e)
			}
		}
	})
}

// P4.7: with wide ranges and long plans, each end is reached, at warmths that are looked for dip by dip.
func TestEachEndIsReached(t *testing.T) {
	figures := []struct {
		of   func(t api.DpTaper) int
		span func(r api.DpRange) api.Span
	}{
		{func(t api.DpTaper) int { return t.Top }, func(r api.DpRange) api.Span { return r.Top }},
		{func(t api.DpTaper) int { return t.Foot }, func(r api.DpRange) api.Span { return r.Foot }},
		{func(t api.DpTaper) int { return t.Foot - t.Top }, func(r api.DpRange) api.Span { return r.Skew }},
	}
	eachSound(471, 150, 30, 40, func(r *rand.Rand, x api.DpShop, start api.DpTaper, p []api.DpDip) {
		list, _ := dip.After(x, start, p)
		for _, f := range figures {
			var low, high []int
			for _, d := range p {
				var least, most int
				bath := x.Baths[d.Bath].Warm
				for n := bath.Lo; n <= bath.Hi; n++ {
					grown := f.of(dipped(x, api.DpTaper{}, d, n))
					if n == bath.Lo || grown < f.of(dipped(x, api.DpTaper{}, d, least)) {
						least = n
					}
					if n == bath.Lo || grown > f.of(dipped(x, api.DpTaper{}, d, most)) {
						most = n
					}
				}
				low, high = append(low, least), append(high, most)
			}
			lows, _ := course(x, start, p, low)
			highs, _ := course(x, start, p, high)
			for i := range p {
				if f.span(list[i]) != span(f.of(lows[i]), f.of(highs[i])) {
					t.Fatalf("%v, %v, %v: After = %v", x, start, p, list)
				}
			}
		}
	})
}

// far is how far from straight a taper is.
func far(t api.DpTaper) int { return max(t.Foot-t.Top, t.Top-t.Foot) }

// P4.4, P4.8: Worst returns the first one of the truths at the ends of the baths in which the taper is farthest from straight, and none is farther.
func TestWorstIsTheWorst(t *testing.T) {
	straight, both, rising, falling := 0, 0, 0, 0
	eachSound(48, 2500, 4, 4, func(r *rand.Rand, x api.DpShop, start api.DpTaper, p []api.DpDip) {
		if r.Intn(4) == 0 {
			// So that the least and the greatest skew are often as far.
			for _, d := range p {
				d.Turned = !d.Turned
				p = append(p, d)
			}
			p, start.Foot = p[:min(4, len(p))], start.Top
		}
		all, lost := rangesOf(x, start, p, truths(x, p))
		if lost || len(p) == 0 {
			return
		}
		end := all[len(p)-1].Skew
		most := max(end.Hi, -end.Lo)
		want := worst(x, start, p, end)
		for _, bound := range []int{0, most - 1, most, most + 1, r.Intn(most + 2)} {
			if bound < 0 {
				continue
			}
			warm, e := dip.Worst(x, start, p, bound)
			if bound >= most {
				straight++
				if len(warm) != 0 || e != api.OK {
					t.Fatalf("%v, %v, %v, %d: Worst = %v, %d", x, start, p, bound, warm, e)
				}
				continue
			}
			if !slices.Equal(warm, want) || e != api.OK {
				t.Fatalf("%v, %v, %v, %d: Worst = %v, %d, not %v", x, start, p, bound, warm, e, want)
			}
			if y, e := dip.Follow(x, start, p, warm); e != api.OK || far(y) != most || far(y) <= bound {
				t.Fatalf("%v, %v, %v, %d, %v: Follow = %v, %d", x, start, p, bound, warm, y, e)
			}
			switch {
			case end.Lo == -end.Hi:
				both++
			case end.Hi == most:
				rising++
			default:
				falling++
			}
		}
	})
	if straight < 500 || both < 50 || rising < 500 || falling < 500 {
		t.Errorf("just %d straight tapers, %d as far in both directions, %d that are thicker at the foot, %d at the top", straight, both, rising, falling)
	}
}

// worst is the first truth, with the ends of the baths alone, the lower ones first, in which the skew is as it is farthest from 0.
func worst(x api.DpShop, start api.DpTaper, p []api.DpDip, end api.Span) []int {
	want := end.Hi
	if max(end.Lo, -end.Lo) >= max(end.Hi, -end.Hi) {
		want = end.Lo
	}
	for set := range 1 << len(p) {
		var warm []int
		for i, d := range p {
			bath := x.Baths[d.Bath].Warm
			warm = append(warm, []int{bath.Lo, bath.Hi}[set>>(len(p)-1-i)&1])
		}
		tapers, _ := course(x, start, p, warm)
		if y := tapers[len(p)-1]; y.Foot-y.Top == want {
			return warm
		}
	}
	return nil
}

// P4.8: with wide ranges and long plans, nothing is farther than at the warmth of Worst.
func TestNothingIsFartherThanTheWorst(t *testing.T) {
	eachSound(480, 1500, 30, 150, func(r *rand.Rand, x api.DpShop, start api.DpTaper, p []api.DpDip) {
		bound := r.Intn(500)
		warm, e := dip.Worst(x, start, p, bound)
		if e != api.OK {
			t.Fatalf("%v, %v, %v: Worst: %d", x, start, p, e)
		}
		most := bound
		if len(warm) > 0 {
			y, e := dip.Follow(x, start, p, warm)
			if most = far(y); e != api.OK || most <= bound {
				t.Fatalf("%v, %v, %v, %d: Worst = %v; Follow = %v, %d", x, start, p, bound, warm, y, e)
			}
		} else if len(p) == 0 {
			return
		}
		for range 30 {
			if y, e := dip.Follow(x, start, p, anyTruth(r, x, p)); e != api.OK || far(y) > most {
				t.Fatalf("%v, %v, %v, %d: Worst = %v; Follow = %v, %d", x, start, p, bound, warm, y, e)
			}
		}
	})
}

// fewest is the first plan that makes what is wanted, of all plans with at most so many dips, those with fewer dips first. What a dip adds is told by all its truths; those of several dips do not depend on each other.
func fewest(x api.DpShop, start api.DpTaper, kinds []api.DpDip, want api.Span, bound, most int) ([]int, bool) {
	makes := func(t api.DpRange) bool {
		return want.Lo <= t.Top.Lo && t.Top.Hi <= want.Hi && want.Lo <= t.Foot.Lo && t.Foot.Hi <= want.Hi && -bound <= t.Skew.Lo && t.Skew.Hi <= bound
	}
	var adds []api.DpRange
	for _, d := range kinds {
		list, _ := rangesOf(x, api.DpTaper{}, plan(d), truths(x, plan(d)))
		adds = append(adds, list[0])
	}
	sum := func(a, b api.Span) api.Span { return span(a.Lo+b.Lo, a.Hi+b.Hi) }
	type attempt struct {
		plan []int
		now  api.DpRange
	}
	skew := start.Foot - start.Top
	level := []attempt{{nil, api.DpRange{Top: span(start.Top, start.Top), Foot: span(start.Foot, start.Foot), Skew: span(skew, skew)}}}
	for range most + 1 {
		var next []attempt
		for _, a := range level {
			if makes(a.now) {
				return a.plan, true
			}
			for k, add := range adds {
				now := api.DpRange{Top: sum(a.now.Top, add.Top), Foot: sum(a.now.Foot, add.Foot), Skew: sum(a.now.Skew, add.Skew)}
				if now.Top.Lo >= start.Wick && now.Foot.Lo >= start.Wick {
					next = append(next, attempt{append(slices.Clone(a.plan), k), now})
				}
			}
		}
		level = next
	}
	return nil, false
}

// wanted is a random want and bound for some kinds: mostly just what some plan of at most so many dips makes, or a little more or less.
func wanted(r *rand.Rand, x api.DpShop, start api.DpTaper, kinds []api.DpDip, most int) (api.Span, int) {
	var p []api.DpDip
	for range r.Intn(most + 1) {
		p = append(p, kinds[r.Intn(len(kinds))])
	}
	list, e := dip.After(x, start, p)
	if e != api.OK || len(list) == 0 {
		return span(start.Top, start.Top+r.Intn(10000)), r.Intn(1000)
	}
	end := list[len(list)-1]
	want := span(min(end.Top.Lo, end.Foot.Lo)+1-r.Intn(3), max(end.Top.Hi, end.Foot.Hi)-1+r.Intn(3))
	if r.Intn(2) == 0 {
		want = span(want.Lo-r.Intn(1000), want.Hi+r.Intn(1000))
	}
	return span(want.Lo, max(want.Lo, want.Hi)), max(0, max(end.Skew.Hi, -end.Skew.Lo)-1+r.Intn(3))
}

// P4.5, P4.9: the plan of Fewest is the first one of all with the fewest dips, and it makes what is wanted.
func TestNoFewerDipsMakeIt(t *testing.T) {
	down, dips := 0, map[int]int{}
	for i, c := range []struct{ times, kinds, most int }{{600, 1, 10}, {500, 2, 10}, {60, 3, 10}, {200, 4, 5}, {200, 5, 4}} {
		r := rand.New(rand.NewSource(49 + int64(i)))
		for range c.times {
			x := anyShop(r, 12)
			start := anyTaper(r)
			var kinds []api.DpDip
			for range c.kinds {
				kinds = append(kinds, anyDip(r, x))
			}
			want, bound := wanted(r, x, start, kinds, c.most)
			best, exists := fewest(x, start, kinds, want, bound, c.most)
			got, e := dip.Fewest(x, start, kinds, want, bound)
			switch {
			case exists && (!slices.Equal(got, best) || e != api.OK):
				t.Fatalf("%v, %v, %v, %v, %d: Fewest = %v, %d, not %v", x, start, kinds, want, bound, got, e, best)
			case !exists && (e != api.OK && len(got) != 0 || e == api.OK && len(got) <= c.most):
				t.Fatalf("%v, %v, %v, %v, %d: Fewest = %v, %d; there is none", x, start, kinds, want, bound, got, e)
			}
			if e == api.ErrDown {
				down++
				continue
			}
			dips[len(got)]++
			made(t, x, start, kinds, want, bound, got)
		}
	}
	if down < 100 || dips[0] < 20 || dips[1] < 50 || dips[2] < 50 || dips[3] < 50 || dips[4] < 50 || dips[10] < 5 {
		t.Errorf("just %d that no plan makes; of how many dips: %v", down, dips)
	}
}

// made reports a plan of Fewest that does not make what is wanted.
func made(t *testing.T, x api.DpShop, start api.DpTaper, kinds []api.DpDip, want api.Span, bound int, got []int) {
	t.Helper()
	var p []api.DpDip
	for _, k := range got {
		p = append(p, kinds[k])
	}
	list, e := dip.After(x, start, p)
	if e != api.OK || len(got) > 10 {
		t.Fatalf("%v, %v, %v: After: %d", x, start, p, e)
	}
	if len(p) > 0 {
		if end := list[len(p)-1]; end.Top.Lo < want.Lo || end.Top.Hi > want.Hi || end.Foot.Lo < want.Lo || end.Foot.Hi > want.Hi {
			t.Fatalf("%v, %v, %v, %v: After = %v", x, start, p, want, end)
		}
	}
	if warm, e := dip.Worst(x, start, p, bound); len(warm) != 0 || e != api.OK {
		t.Fatalf("%v, %v, %v, %d: Worst = %v, %d", x, start, p, bound, warm, e)
	}
}

// P4.10
func TestTheOrderOfDipsDoesNotMatterInTheEnd(t *testing.T) {
	times := 0
	eachSound(410, 2000, 12, 100, func(r *rand.Rand, x api.DpShop, start api.DpTaper, p []api.DpDip) {
		list, _ := dip.After(x, start, p)
		other := slices.Clone(p)
		r.Shuffle(len(p), func(i, j int) { other[i], other[j] = other[j], other[i] })
		again, e := dip.After(x, start, other)
		if e == api.ErrDown || len(p) == 0 {
			return
		}
		times++
		if e != api.OK || again[len(p)-1] != list[len(p)-1] {
			t.Fatalf("%v, %v, %v: After = %v; %v: %v, %d", x, start, p, list, other, again, e)
		}
	})
	if times < 500 {
		t.Errorf("just %d times", times)
	}
}

// P4.11: at a higher warmth, and with more seconds, no end becomes thicker.
func TestWarmerAndLongerIsNotThicker(t *testing.T) {
	thinner := 0
	eachSound(411, 2000, 12, 100, func(r *rand.Rand, x api.DpShop, start api.DpTaper, p []api.DpDip) {
		if len(p) == 0 {
			return
		}
		warm, at := anyTruth(r, x, p), r.Intn(len(p))
		before, _ := dip.Follow(x, start, p, warm)
		warmer, longer := slices.Clone(warm), slices.Clone(p)
		warmer[at] = within(r, span(warm[at], x.Baths[p[at].Bath].Warm.Hi))
		longer[at].Seconds = min(600, p[at].Seconds+r.Intn(5))
		for _, c := range []struct {
			p    []api.DpDip
			warm []int
		}{{p, warmer}, {longer, warm}} {
			after, e := dip.Follow(x, start, c.p, c.warm)
			if e == api.OK && (after.Top > before.Top || after.Foot > before.Foot) {
				t.Fatalf("%v, %v, %v, %v: Follow = %v; %v, %v: %v", x, start, p, warm, before, c.p, c.warm, after)
			}
			if e == api.ErrDown || after.Top < before.Top && after.Foot < before.Foot {
				thinner++
			}
		}
	})
	if thinner < 300 {
		t.Errorf("just %d times really thinner", thinner)
	}
}

// P4.11: with a longer pause the skew of a dip that is not turned is no greater, and of one that is turned no less.
func TestALongerPauseSkewsLess(t *testing.T) {
	less := 0
	eachSound(4110, 2000, 12, 100, func(r *rand.Rand, x api.DpShop, start api.DpTaper, p []api.DpDip) {
		if len(p) == 0 {
			return
		}
		longer, at := slices.Clone(p), r.Intn(len(p))
		longer[at].Pause = within(r, span(p[at].Pause, min(600, p[at].Pause+50)))
		warm := anyTruth(r, x, p)
		a, _ := dip.Follow(x, start, p, warm)
		b, e := dip.Follow(x, start, longer, warm)
		if e != api.OK {
			return
		}
		grown := b.Foot - b.Top - (a.Foot - a.Top)
		if p[at].Turned {
			grown = -grown
		}
		if grown > 0 {
			t.Fatalf("%v, %v, %v, %v: Follow = %v; %v: %v", x, start, p, warm, a, longer, b)
		}
		if grown < 0 {
			less++
		}
	})
	if less < 300 {
		t.Errorf("just %d times really less", less)
	}
}

// P4.12: if all is turned, so is what is told.
func TestTurnedIsTheOtherWayRound(t *testing.T) {
	eachCase(412, 2000, 12, 100, func(r *rand.Rand, x api.DpShop, start api.DpTaper, p []api.DpDip) {
		turned := slices.Clone(p)
		for i := range turned {
			turned[i].Turned = !turned[i].Turned
		}
		list, e := dip.After(x, start, p)
		back, f := dip.After(x, api.DpTaper{Wick: start.Wick, Top: start.Foot, Foot: start.Top}, turned)
		for i, y := range back {
			back[i] = api.DpRange{Top: y.Foot, Foot: y.Top, Skew: span(-y.Skew.Hi, -y.Skew.Lo)}
		}
		if e != f || !slices.Equal(list, back) {
			t.Fatalf("%v, %v, %v: After = %v, %d; turned %v, %d", x, start, p, list, e, back, f)
		}
	})
}

// P4.13: after two plans a taper is as after both, one behind the other.
func TestOnAndOn(t *testing.T) {
	times := 0
	eachCase(413, 4000, 20, 100, func(r *rand.Rand, x api.DpShop, start api.DpTaper, p []api.DpDip) {
		warm, at := anyTruth(r, x, p), r.Intn(len(p)+1)
		all, e := dip.Follow(x, start, p, warm)
		half, f := dip.Follow(x, start, p[:at], warm[:at])
		if f == api.ErrDown && e != api.ErrDown {
			t.Fatalf("%v, %v, %v, %v: Follow: %d; of the first %d dips: %d", x, start, p, warm, e, at, f)
		}
		if f != api.OK || half.Top > api.MaxDpWide || half.Foot > api.MaxDpWide {
			return
		}
		times++
		if end, f := dip.Follow(x, half, p[at:], warm[at:]); end != all || f != e {
			t.Fatalf("%v, %v, %v, %v: Follow = %v, %d; in two parts from %d on %v, %d", x, start, p, warm, all, e, at, end, f)
		}
	})
	if times < 1000 {
		t.Errorf("just %d times", times)
	}
}

// P4.14: with a wider warmth no range is narrower.
func TestWiderWarmthIsToldWider(t *testing.T) {
	wide := func(s, other api.Span) bool { return other.Lo <= s.Lo && s.Hi <= other.Hi }
	wider := 0
	eachSound(414, 2000, 12, 100, func(r *rand.Rand, x api.DpShop, start api.DpTaper, p []api.DpDip) {
		more := clone(x)
		for i, b := range more.Baths {
			more.Baths[i].Warm = span(within(r, span(x.Melt, b.Warm.Lo)), within(r, span(b.Warm.Hi, b.Warm.Hi+30)))
		}
		list, _ := dip.After(x, start, p)
		all, e := dip.After(more, start, p)
		if e == api.ErrDown {
			return
		}
		for i, y := range list {
			if e != api.OK || !wide(y.Top, all[i].Top) || !wide(y.Foot, all[i].Foot) || !wide(y.Skew, all[i].Skew) {
				t.Fatalf("%v, %v, %v: After = %v; %v: %v, %d", x, start, p, list, more, all, e)
			}
			if y.Top != all[i].Top && y.Foot != all[i].Foot && y.Skew != all[i].Skew {
				wider++
			}
		}
	})
	if wider < 300 {
		t.Errorf("just %d times really wider", wider)
	}
}
