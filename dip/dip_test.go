package dip_test

import (
	"math"
	"slices"
	"strings"
	"testing"

	"stearin/api"
	"stearin/dip"
)

// taper is a taper with the wick of T.
func taper(top, foot int) api.DpTaper { return api.DpTaper{Wick: 2000, Top: top, Foot: foot} }

// ranged is what the top, the foot and the skew of a taper can be.
func ranged(top, foot, skew api.Span) api.DpRange {
	return api.DpRange{Top: top, Foot: foot, Skew: skew}
}

// bare is a shop with one bath as warm as the wax melts, whose dips do nothing; a test gives it what it needs.
func bare(change func(x *api.DpShop)) api.DpShop {
	x := api.DpShop{Melt: 600, Baths: []api.DpBath{{Name: "only", Warm: span(600, 600)}}}
	change(&x)
	return x
}

// P4.2, and the examples of the chapter.
func TestFollow(t *testing.T) {
	for i, c := range []struct {
		plan []api.DpDip
		warm []int
		want api.DpTaper
	}{
		{nil, nil, taper(2000, 2000)},
		{plan(dipA()), []int{610}, taper(2900, 2900)},
		{plan(dipA()), []int{630}, taper(2700, 2700)},
		{plan(dipB()), []int{620}, taper(2760, 2680)},
		{plan(dipB()), []int{630}, taper(2640, 2520)},
		{plan(dipC()), []int{610}, taper(2860, 2940)},
		{plan(dipC()), []int{630}, taper(2660, 2740)},
		{plan(dipD()), []int{610}, taper(2940, 2860)},
		{plan(dipC(), dipD()), []int{610, 630}, taper(3600, 3600)},
		{plan(dipA(), dipB(), dipA()), []int{610, 620, 630}, taper(4360, 4280)},
		{plan(dipA(), hotDip()), []int{610, 661}, taper(3168, 2924)},
	} {
		if x, e := dip.Follow(example(), exampleTaper(), c.plan, c.warm); x != c.want || e != api.OK {
			t.Errorf("%d: Follow = %v, %d, not %v", i, x, e, c.want)
		}
	}
}

// P4.2: each number of a shop and of a dip counts as the definition says.
func TestFollowOneDip(t *testing.T) {
	for i, c := range []struct {
		change    func(x *api.DpShop)
		d         api.DpDip
		warmth    int
		top, foot int
	}{
		// Nothing but a coat.
		{func(x *api.DpShop) { x.Coat = 7 }, api.DpDip{Seconds: 1}, 600, 14, 14},
		{func(x *api.DpShop) { x.Coat = 7 }, api.DpDip{Seconds: 600, Pause: 600, Turned: true}, 600, 14, 14},
		// Thinner with each tenth of a degree over.
		{func(x *api.DpShop) { x.Coat, x.Thin = 100, 3 }, api.DpDip{Seconds: 1}, 611, 134, 134},
		// Back counts with each second above Hold, and with over; the upper end is in the bath for Draw seconds less.
		{func(x *api.DpShop) { x.Coat, x.Back, x.Hold = 100, 2, 5 }, api.DpDip{Seconds: 5}, 603, 200, 200},
		{func(x *api.DpShop) { x.Coat, x.Back, x.Hold = 100, 2, 5 }, api.DpDip{Seconds: 6}, 603, 188, 188},
		{func(x *api.DpShop) { x.Coat, x.Back, x.Hold = 100, 2, 5 }, api.DpDip{Seconds: 6}, 600, 200, 200},
		{func(x *api.DpShop) { x.Coat, x.Back, x.Hold, x.Draw = 100, 2, 5, 1 }, api.DpDip{Seconds: 6}, 603, 200, 188},
		{func(x *api.DpShop) { x.Coat, x.Back, x.Hold, x.Draw = 100, 2, 5, 1 }, api.DpDip{Seconds: 7}, 603, 188, 176},
		{func(x *api.DpShop) { x.Coat, x.Back, x.Hold, x.Draw = 100, 2, 5, 3 }, api.DpDip{Seconds: 7}, 603, 200, 176},
		{func(x *api.DpShop) { x.Coat, x.Back, x.Hold, x.Draw = 100, 2, 5, 3 }, api.DpDip{Seconds: 7, Turned: true}, 603, 176, 200},
		{func(x *api.DpShop) { x.Coat, x.Back, x.Draw = 100, 2, 3 }, api.DpDip{Seconds: 4}, 601, 196, 184},
		// What has not set runs down; with just the seconds of Set, or more, nothing does.
		{func(x *api.DpShop) { x.Coat, x.Run, x.Set = 100, 4, 10 }, api.DpDip{Seconds: 1, Pause: 10}, 600, 200, 200},
		{func(x *api.DpShop) { x.Coat, x.Run, x.Set = 100, 4, 10 }, api.DpDip{Seconds: 1, Pause: 11}, 600, 200, 200},
		{func(x *api.DpShop) { x.Coat, x.Run, x.Set = 100, 4, 10 }, api.DpDip{Seconds: 1, Pause: 9}, 600, 192, 208},
		{func(x *api.DpShop) { x.Coat, x.Run, x.Set = 100, 4, 10 }, api.DpDip{Seconds: 1, Pause: 0}, 600, 120, 280},
		{func(x *api.DpShop) { x.Coat, x.Run, x.Set = 100, 4, 10 }, api.DpDip{Seconds: 1, Pause: 0, Turned: true}, 600, 280, 120},
		// Either end can become thinner.
		{func(x *api.DpShop) { x.Coat, x.Run, x.Set = 10, 4, 10 }, api.DpDip{Seconds: 1, Pause: 0}, 600, -60, 100},
		{func(x *api.DpShop) { x.Coat, x.Thin = 10, 1 }, api.DpDip{Seconds: 1}, 630, -40, -40},
		{func(x *api.DpShop) { x.Coat, x.Back, x.Draw = 10, 1, 1 }, api.DpDip{Seconds: 2}, 610, 0, -20},
	} {
		x := bare(c.change)
		x.Baths[0].Warm.Hi = 2000
		for _, at := range []int{100, 50000, 100000} {
			start := api.DpTaper{Wick: 1, Top: at, Foot: at}
			want := api.DpTaper{Wick: 1, Top: at + c.top, Foot: at + c.foot}
			if got, e := dip.Follow(x, start, plan(c.d), []int{c.warmth}); got != want || e != api.OK {
				t.Errorf("%d: Follow = %v, %d, not %v", i, got, e, want)
			}
		}
	}
}

// P4.2, P4.3: the greatest numbers; a taper can become wider than one can be before.
func TestTheGreatestNumbers(t *testing.T) {
	grows := bare(func(x *api.DpShop) { x.Coat, x.Run, x.Set = 5000, 50, 600 })
	widest := api.DpTaper{Wick: 100000, Top: 100000, Foot: 100000}
	turns := slices.Repeat(plan(api.DpDip{Seconds: 600}, api.DpDip{Seconds: 600, Turned: true}), 15)
	if x, e := dip.Follow(grows, api.DpTaper{Top: 50000}, turns[:2], []int{600, 600}); x != (api.DpTaper{Top: 70000, Foot: 20000}) || e != api.OK {
		t.Errorf("Follow = %v, %d", x, e)
	}
	if x, e := dip.Follow(grows, api.DpTaper{Top: 49999}, turns[:2], []int{600, 600}); x != (api.DpTaper{}) || e != api.ErrDown {
		t.Errorf("Follow = %v, %d", x, e)
	}
	grows.Set = 60
	if x, e := dip.Follow(grows, widest, turns, slices.Repeat([]int{600}, 30)); x != (api.DpTaper{Wick: 100000, Top: 400000, Foot: 400000}) || e != api.OK {
		t.Errorf("Follow = %v, %d", x, e)
	}
	l, e := dip.After(grows, widest, turns)
	if want := ranged(span(400000, 400000), span(400000, 400000), span(0, 0)); e != api.OK || len(l) != 30 || l[29] != want {
		t.Errorf("After = %v, %d", l, e)
	}
	// The most that melts back: a taper cannot stand it.
	x := full()
	x.Draw = 0
	if l, e := dip.After(x, widest, plan(api.DpDip{Seconds: 600})); len(l) != 0 || e != api.ErrDown {
		t.Errorf("After = %v, %d", l, e)
	}
	x.Baths[0].Warm = span(0, 0)
	if l, e := dip.After(x, widest, plan(api.DpDip{Seconds: 600, Pause: 500})); e != api.OK || !slices.Equal(l, []api.DpRange{ranged(span(100000, 100000), span(120000, 120000), span(20000, 20000))}) {
		t.Errorf("After = %v, %d", l, e)
	}
}

// P4.2: a taper is lost if either end becomes thinner than the wick after some dip, also if it is thick in the end.
func TestFollowLosesATaper(t *testing.T) {
	hot := hotDip()
	back := hot
	back.Turned = true
	for i, c := range []struct {
		t    api.DpTaper
		plan []api.DpDip
		warm []int
		e    api.Errno
	}{
		// At 680 the foot grows by -280, and the top by 200 less 160.
		{taper(2000, 2280), plan(hot), []int{680}, api.OK},
		{taper(2000, 2279), plan(hot), []int{680}, api.ErrDown},
		{taper(2280, 2000), plan(back), []int{680}, api.OK},
		{taper(2279, 2000), plan(back), []int{680}, api.ErrDown},
		{taper(2000, 2000), plan(hot, dipA(), dipA()), []int{680, 610, 610}, api.ErrDown},
		{taper(2000, 2000), plan(dipA(), hot, dipA()), []int{610, 680, 610}, api.OK},
		{taper(2000, 2000), plan(dipA(), hot, hot, hot), []int{610, 680, 680, 680}, api.OK},
		{taper(2000, 2000), plan(dipA(), hot, hot, hot, hot, dipA()), []int{610, 680, 680, 680, 680, 610}, api.ErrDown},
		{api.DpTaper{Wick: 0, Top: 0, Foot: 279}, plan(hot), []int{680}, api.ErrDown},
		{api.DpTaper{Wick: 0, Top: 0, Foot: 280}, plan(hot), []int{680}, api.OK},
	} {
		x, e := dip.Follow(example(), c.t, c.plan, c.warm)
		list, lost := course(example(), c.t, c.plan, c.warm)
		want := list[len(list)-1]
		if lost {
			want = api.DpTaper{}
		}
		if e != c.e || x != want || lost != (c.e == api.ErrDown) {
			t.Errorf("%d: Follow = %v, %d, not %v, %d", i, x, e, want, c.e)
		}
	}
}

// P4.3, and the examples of the chapter.
func TestAfter(t *testing.T) {
	hot := hotDip()
	for i, c := range []struct {
		t    api.DpTaper
		plan []api.DpDip
		want []api.DpRange
		e    api.Errno
	}{
		{exampleTaper(), nil, nil, api.OK},
		{exampleTaper(), plan(dipC(), dipD()), []api.DpRange{
			ranged(span(2660, 2860), span(2740, 2940), span(80, 80)),
			ranged(span(3400, 3800), span(3400, 3800), span(0, 0)),
		}, api.OK},
		{exampleTaper(), plan(hot), nil, api.ErrDown},
		{exampleTaper(), plan(dipB()), []api.DpRange{ranged(span(2640, 2880), span(2520, 2840), span(-120, -40))}, api.OK},
		{exampleTaper(), plan(dipB(), dipA()), []api.DpRange{
			ranged(span(2640, 2880), span(2520, 2840), span(-120, -40)),
			ranged(span(3340, 3780), span(3220, 3740), span(-120, -40)),
		}, api.OK},
		{taper(2010, 2030), plan(dipA()), []api.DpRange{ranged(span(2710, 2910), span(2730, 2930), span(20, 20))}, api.OK},
		// Lost in some truth alone, and in some dip before the end.
		{taper(2000, 2280), plan(hot), []api.DpRange{ranged(span(2040, 2280), span(2280-280, 2280+40), span(280-320, 280-240))}, api.OK},
		{taper(2000, 2279), plan(hot), nil, api.ErrDown},
		{taper(2000, 2279), plan(hot, dipA()), nil, api.ErrDown},
		{taper(2000, 2000), plan(dipA(), hot, hot, hot), nil, api.ErrDown},
		{taper(2000, 2000), plan(dipA(), hot, hot), []api.DpRange{
			ranged(span(2700, 2900), span(2700, 2900), span(0, 0)),
			ranged(span(2740, 3180), span(2420, 2940), span(-320, -240)),
			ranged(span(2780, 3460), span(2140, 2980), span(-640, -480)),
		}, api.OK},
	} {
		if l, e := dip.After(example(), c.t, c.plan); !slices.Equal(l, c.want) || e != c.e {
			t.Errorf("%d: After = %v, %d, not %v, %d", i, l, e, c.want, c.e)
		}
	}
}

// P4.4, and the example of the chapter.
func TestWorst(t *testing.T) {
	turned := dipB()
	turned.Turned = true
	// In calm the bath has one warmth alone, in steady Seconds are not above Hold: there the skew does not change with the warmth.
	calm := example()
	calm.Baths = append(calm.Baths, api.DpBath{Name: "calm", Warm: span(620, 620)})
	steady, still := dipC(), api.DpDip{Bath: 2, Seconds: 7, Pause: 40}
	for i, c := range []struct {
		t     api.DpTaper
		plan  []api.DpDip
		bound int
		want  []int
	}{
		{exampleTaper(), plan(dipB()), 119, []int{630}},
		{exampleTaper(), plan(dipB()), 120, nil},
		{exampleTaper(), plan(dipB()), math.MaxInt, nil},
		{exampleTaper(), plan(dipB()), 0, []int{630}},
		{exampleTaper(), plan(turned), 119, []int{630}},
		{exampleTaper(), plan(turned), 120, nil},
		// From -120 to -40, and 70, 80, 81, or 90 more: the least one, if both are as far.
		{taper(2000, 2070), plan(dipB()), 49, []int{630}},
		{taper(2000, 2070), plan(dipB()), 50, nil},
		{taper(2000, 2080), plan(dipB()), 39, []int{630}},
		{taper(2000, 2080), plan(dipB()), 40, nil},
		{taper(2000, 2081), plan(dipB()), 40, []int{610}},
		{taper(2000, 2081), plan(dipB()), 41, nil},
		{taper(2000, 2090), plan(dipB()), 49, []int{610}},
		{taper(2000, 2090), plan(dipB()), 50, nil},
		// Turned, from 40 to 120, and 80 less.
		{taper(2080, 2000), plan(turned), 39, []int{610}},
		{taper(2081, 2000), plan(turned), 39, []int{610}},
		{taper(2079, 2000), plan(turned), 39, []int{630}},
		// One and back: from -80 to 80.
		{exampleTaper(), plan(dipB(), turned), 79, []int{630, 610}},
		{exampleTaper(), plan(dipB(), turned), 80, nil},
		{exampleTaper(), plan(turned, dipB()), 79, []int{610, 630}},
		{taper(2000, 2001), plan(turned, dipB()), 79, []int{630, 610}},
		// The Lo, if it makes no difference.
		{exampleTaper(), plan(steady), 79, []int{610}},
		{exampleTaper(), plan(steady), 80, nil},
		{exampleTaper(), plan(dipA(), steady, still, dipB()), 0, []int{610, 610, 620, 630}},
		{taper(2000, 2999), plan(dipA(), steady, still, dipB()), 0, []int{610, 610, 620, 610}},
		{taper(2000, 2999), plan(turned, dipA(), steady, still, dipB()), 0, []int{630, 610, 610, 620, 610}},
		// Nothing, if there are no dips.
		{taper(2000, 2001), nil, 0, nil},
		{taper(2000, 2001), nil, 1, nil},
	} {
		if l, e := dip.Worst(calm, c.t, c.plan, c.bound); !slices.Equal(l, c.want) || e != api.OK {
			t.Errorf("%d: Worst = %v, %d, not %v", i, l, e, c.want)
		}
	}
}

// P4.5, and the examples of the chapter.
func TestFewest(t *testing.T) {
	abcd := plan(dipA(), dipB(), dipC(), dipD())
	for i, c := range []struct {
		t     api.DpTaper
		kinds []api.DpDip
		want  api.Span
		bound int
		plan  []int
		e     api.Errno
	}{
		{exampleTaper(), abcd, span(3400, 3800), 50, []int{0, 0}, api.OK},
		{exampleTaper(), plan(dipC(), dipD()), span(3400, 3800), 0, []int{0, 1}, api.OK},
		{exampleTaper(), plan(dipD(), dipC()), span(3400, 3800), 0, []int{0, 1}, api.OK},
		{exampleTaper(), plan(dipC()), span(3400, 3800), 50, nil, api.ErrDown},
		// The ends of what is wanted, and of how far from straight.
		{exampleTaper(), plan(dipA()), span(3401, 3800), 50, nil, api.ErrDown},
		{exampleTaper(), plan(dipA()), span(3400, 3799), 50, nil, api.ErrDown},
		{exampleTaper(), plan(dipC()), span(2660, 2940), 80, []int{0}, api.OK},
		{exampleTaper(), plan(dipC()), span(2660, 2940), 79, nil, api.ErrDown},
		{exampleTaper(), plan(dipC()), span(2661, 2940), 80, nil, api.ErrDown},
		{exampleTaper(), plan(dipC()), span(2660, 2939), 80, nil, api.ErrDown},
		{exampleTaper(), plan(dipD()), span(2660, 2940), 80, []int{0}, api.OK},
		{exampleTaper(), plan(dipD()), span(2660, 2940), 79, nil, api.ErrDown},
		{exampleTaper(), plan(dipD()), span(2661, 2940), 80, nil, api.ErrDown},
		{exampleTaper(), plan(dipD()), span(2660, 2939), 80, nil, api.ErrDown},
		{exampleTaper(), plan(dipB()), span(2520, 2880), 120, []int{0}, api.OK},
		{exampleTaper(), plan(dipB()), span(2520, 2880), 119, nil, api.ErrDown},
		// No dips are a plan, too.
		{exampleTaper(), abcd, span(2000, 2000), 0, nil, api.OK},
		{taper(2000, 2010), abcd, span(2000, 2010), 10, nil, api.OK},
		{taper(2000, 2010), plan(dipA()), span(2000, 2010), 9, nil, api.ErrDown},
		{taper(2010, 2000), plan(dipA()), span(2000, 2010), 9, nil, api.ErrDown},
		{taper(2010, 2000), plan(dipA()), span(2000, 2009), 10, nil, api.ErrDown},
		{exampleTaper(), abcd, span(math.MinInt, math.MaxInt), math.MaxInt, nil, api.OK},
		{exampleTaper(), abcd, span(math.MinInt, 1999), math.MaxInt, nil, api.ErrDown},
		{exampleTaper(), abcd, span(math.MaxInt, math.MaxInt), math.MaxInt, nil, api.ErrDown},
		// At most ten dips.
		{exampleTaper(), plan(dipA()), span(9000, 11000), 0, slices.Repeat([]int{0}, 10), api.OK},
		{exampleTaper(), plan(dipA()), span(9001, 12000), 0, nil, api.ErrDown},
		{exampleTaper(), plan(dipA()), span(9700, 13000), 0, nil, api.ErrDown},
		{exampleTaper(), plan(dipC(), dipD(), dipC(), dipD(), dipC()), span(9000, 11000), 0, []int{0, 0, 0, 0, 0, 1, 1, 1, 1, 1}, api.OK},
		// Of several the first one, also of dips that are the same, and of those that need not all be.
		{exampleTaper(), plan(dipB(), dipA(), dipA()), span(3400, 3800), 50, []int{1, 1}, api.OK},
		{exampleTaper(), plan(dipD(), dipA(), dipC()), span(3400, 3800), 0, []int{0, 2}, api.OK},
		{exampleTaper(), plan(dipD(), dipA()), span(3400, 3800), 0, []int{1, 1}, api.OK},
		{exampleTaper(), plan(dipB(), dipC(), dipD(), dipA()), span(4060, 4760), 80, []int{1, 1, 2}, api.OK},
	} {
		if l, e := dip.Fewest(example(), c.t, c.kinds, c.want, c.bound); !slices.Equal(l, c.plan) || e != c.e {
			t.Errorf("%d: Fewest = %v, %d, not %v, %d", i, l, e, c.plan, c.e)
		}
	}
}

// P4.5: in a plan that makes the diameters the taper is not lost before the end.
func TestFewestLosesNoTaper(t *testing.T) {
	// Both ends become thicker by 200 with grow, by 100 with little, and thinner by 100 with melt; down makes the top thinner by 100 and the foot thicker by 300, and up the other way round.
	x := bare(func(x *api.DpShop) { x.Coat, x.Thin, x.Run, x.Set = 100, 1, 1, 100 })
	x.Baths = append(x.Baths, api.DpBath{Name: "hot", Warm: span(750, 750)}, api.DpBath{Name: "warm", Warm: span(650, 650)})
	grow, melt, little := api.DpDip{Seconds: 1, Pause: 100}, api.DpDip{Bath: 1, Seconds: 1, Pause: 100}, api.DpDip{Bath: 2, Seconds: 1, Pause: 100}
	down, up := api.DpDip{Bath: 2, Seconds: 1, Pause: 0}, api.DpDip{Bath: 2, Seconds: 1, Pause: 0, Turned: true}
	for i, c := range []struct {
		t     api.DpTaper
		kinds []api.DpDip
		want  int
		plan  []int
		e     api.Errno
	}{
		{taper(2000, 2000), plan(melt, grow), 2100, []int{1, 0}, api.OK},
		{taper(2100, 2100), plan(melt, grow), 2200, []int{0, 1}, api.OK},
		{taper(2000, 2000), plan(melt, grow), 2300, []int{1, 0, 1}, api.OK},
		{taper(2100, 2099), plan(melt, grow), 2200, nil, api.ErrDown},
		{taper(2000, 2000), plan(melt), 1900, nil, api.ErrDown},
		{taper(2000, 2000), plan(melt, grow), 1900, nil, api.ErrDown},
		// The first order in which neither end is lost is not the first one of all.
		{taper(2000, 2000), plan(down, up, grow), 2200, []int{2}, api.OK},
		{taper(2000, 2000), plan(down, up, grow), 2400, []int{2, 2}, api.OK},
		{taper(2000, 2000), plan(down, up, little), 2300, []int{2, 0, 1}, api.OK},
		{taper(2000, 2000), plan(up, down, little), 2300, []int{2, 0, 1}, api.OK},
		{taper(2000, 2000), plan(up, little, down), 2300, []int{1, 0, 2}, api.OK},
		{taper(2000, 2000), plan(down, up), 2200, nil, api.ErrDown},
		{taper(2000, 2000), plan(down, up, melt, little), 2200, []int{3, 3}, api.OK},
		{taper(2100, 2100), plan(down, up, melt), 2300, []int{0, 1}, api.OK},
		{taper(2100, 2100), plan(down, up, melt), 2200, []int{0, 1, 2}, api.OK},
		{taper(2100, 2100), plan(melt, down, up), 2200, []int{1, 2, 0}, api.OK},
		{taper(2200, 2200), plan(melt, down, up), 2300, []int{0, 1, 2}, api.OK},
		// Down alone loses the top, up alone the foot.
		{taper(2099, 2000), plan(down, up), 2299, nil, api.ErrDown},
		{taper(2100, 2000), plan(down, up, down, up), 2100, nil, api.ErrDown},
		{taper(2400, 2000), plan(up, down), 2300, []int{1}, api.OK},
		{taper(2000, 2400), plan(down, up), 2300, []int{1}, api.OK},
	} {
		if l, e := dip.Fewest(x, c.t, c.kinds, span(c.want, c.want), 0); !slices.Equal(l, c.plan) || e != c.e {
			t.Errorf("%d: Fewest = %v, %d, not %v, %d", i, l, e, c.plan, c.e)
		}
	}
}

// P4.6, and the example of the chapter.
func TestWriteAndReadTheExample(t *testing.T) {
	const text = "low 3 40\nlow 3 30 turned\n"
	if s, e := dip.Write(example(), plan(dipA(), dipD())); s != text || e != api.OK {
		t.Errorf("Write = %q, %d", s, e)
	}
	if p, e := dip.Read(example(), text); !slices.Equal(p, plan(dipA(), dipD())) || e != api.OK {
		t.Errorf("Read = %v, %d", p, e)
	}
	if s, e := dip.Write(example(), nil); s != "" || e != api.OK {
		t.Errorf("Write = %q, %d", s, e)
	}
	if p, e := dip.Read(example(), ""); len(p) != 0 || e != api.OK {
		t.Errorf("Read = %v, %d", p, e)
	}
	if s, e := dip.Write(full(), slices.Repeat(plan(api.DpDip{Bath: 5, Seconds: 600, Pause: 600, Turned: true}), 30)); s != strings.Repeat(strings.Repeat("x", 19)+"f 600 600 turned\n", 30) || e != api.OK {
		t.Errorf("Write = %q, %d", s, e)
	}
}
