package dip_test

import (
	"iter"
	"math"
	"math/rand"
	"slices"
	"strings"

	"stearin/api"
	"stearin/dip"
)

// span is the range from one number to another one.
func span(lo, hi int) api.Span { return api.Span{Lo: lo, Hi: hi} }

// example is the shop S of the chapter.
func example() api.DpShop {
	return api.DpShop{
		Melt: 600, Coat: 500, Thin: 5, Hold: 4, Back: 1,
		Draw: 2, Set: 40, Run: 2,
		Baths: []api.DpBath{{Name: "low", Warm: span(610, 630)}, {Name: "high", Warm: span(660, 680)}},
	}
}

// exampleTaper is the taper T of the chapter.
func exampleTaper() api.DpTaper { return api.DpTaper{Wick: 2000, Top: 2000, Foot: 2000} }

// dipA, dipB, dipC and dipD are the dips A, B, C and D of the chapter; hotDip is the one in the bath high.

func dipA() api.DpDip { return api.DpDip{Bath: 0, Seconds: 3, Pause: 40} }

func dipB() api.DpDip { return api.DpDip{Bath: 0, Seconds: 7, Pause: 40} }

func dipC() api.DpDip { return api.DpDip{Bath: 0, Seconds: 3, Pause: 30} }

func dipD() api.DpDip { return api.DpDip{Bath: 0, Seconds: 3, Pause: 30, Turned: true} }

func hotDip() api.DpDip { return api.DpDip{Bath: 1, Seconds: 7, Pause: 40} }

// plan is a list of dips.
func plan(dips ...api.DpDip) []api.DpDip { return dips }

// full is a shop with as much as there can be, with the longest names, and the widest ranges.
func full() api.DpShop {
	x := api.DpShop{Melt: 0, Coat: 5000, Thin: 100, Hold: 0, Back: 10, Draw: 599, Set: 600, Run: 50}
	for i := range 6 {
		x.Baths = append(x.Baths, api.DpBath{Name: strings.Repeat("x", 19) + string(rune('a'+i)), Warm: span(0, 2000)})
	}
	return x
}

// clone is a copy of a shop that shares no memory with it.
func clone(x api.DpShop) api.DpShop {
	x.Baths = slices.Clone(x.Baths)
	return x
}

// outside are numbers of which none is from least to most.
func outside(least, most int) []int {
	return []int{least - 1, most + 1, least - 1000000, most + 1000000, math.MinInt, math.MaxInt, math.MinInt32, math.MaxInt32}
}

// coat is the coat of an end that is in a bath for some seconds, by the definition: each second above Hold melts some of it back.
func coat(x api.DpShop, over, seconds int) int {
	c := x.Coat
	c -= x.Thin * over
	for s := x.Hold; s < seconds; s++ {
		c -= x.Back * over
	}
	return c
}

// dipped is a taper after a dip at a warmth, by the definition: each second too few of a pause makes some run down.
func dipped(x api.DpShop, t api.DpTaper, d api.DpDip, warmth int) api.DpTaper {
	lower, upper := coat(x, warmth-x.Melt, d.Seconds), coat(x, warmth-x.Melt, d.Seconds-x.Draw)
	for s := d.Pause; s < x.Set; s++ {
		lower += x.Run
		upper -= x.Run
	}
	if d.Turned {
		t.Foot, t.Top = t.Foot+2*upper, t.Top+2*lower
	} else {
		t.Foot, t.Top = t.Foot+2*lower, t.Top+2*upper
	}
	return t
}

// course are the tapers after each dip of a plan at a warmth of each, and whether the taper is lost.
func course(x api.DpShop, t api.DpTaper, p []api.DpDip, warm []int) (list []api.DpTaper, lost bool) {
	for i, d := range p {
		t = dipped(x, t, d, warm[i])
		list = append(list, t)
		lost = lost || t.Top < t.Wick || t.Foot < t.Wick
	}
	return list, lost
}

// truths yields all truths of a plan.
func truths(x api.DpShop, p []api.DpDip) iter.Seq[[]int] {
	return func(yield func([]int) bool) {
		warm := make([]int, len(p))
		for i, d := range p {
			warm[i] = x.Baths[d.Bath].Warm.Lo
		}
		for yield(slices.Clone(warm)) {
			// The next truth is counted up to, like a number.
			at := 0
			for at < len(p) && warm[at] == x.Baths[p[at].Bath].Warm.Hi {
				warm[at] = x.Baths[p[at].Bath].Warm.Lo
				at++
			}
			if at == len(p) {
				return
			}
			warm[at]++
		}
	}
}

// within is a random number of a range, often one of its ends.
func within(r *rand.Rand, s api.Span) int {
	switch r.Intn(4) {
	case 0:
		return s.Lo
	case 1:
		return s.Hi
	}
	return s.Lo + r.Intn(s.Hi-s.Lo+1)
}

// part is a random range within another one, with at most so many numbers.
func part(r *rand.Rand, s api.Span, most int) api.Span {
	lo := s.Lo + r.Intn(s.Hi-s.Lo+1)
	return span(lo, min(s.Hi, lo+r.Intn(most)))
}

// anyTruth is a random truth of a plan.
func anyTruth(r *rand.Rand, x api.DpShop, p []api.DpDip) []int {
	var warm []int
	for _, d := range p {
		warm = append(warm, within(r, x.Baths[d.Bath].Warm))
	}
	return warm
}

// anyShop is a random shop, mostly one whose dips make a taper thicker; the warmth of a bath has at most so many numbers.
func anyShop(r *rand.Rand, many int) api.DpShop {
	x := api.DpShop{
		Melt: 500 + r.Intn(200), Coat: 300 + r.Intn(700), Thin: r.Intn(8), Hold: r.Intn(10), Back: r.Intn(3),
		Draw: r.Intn(6), Set: r.Intn(60), Run: r.Intn(4),
	}
	if r.Intn(20) == 0 {
		x.Coat, x.Thin, x.Hold, x.Back, x.Draw, x.Set, x.Run = r.Intn(5001), r.Intn(101), r.Intn(601), r.Intn(11), r.Intn(600), r.Intn(601), r.Intn(51)
	}
	for i := range 1 + r.Intn(6) {
		x.Baths = append(x.Baths, api.DpBath{Name: "x-" + string(rune('a'+i)), Warm: part(r, span(x.Melt, x.Melt+[]int{40, 80, 120}[r.Intn(3)]), many)})
	}
	return x
}

// anyTaper is a random taper, often one as thin as its wick.
func anyTaper(r *rand.Rand) api.DpTaper {
	wick := r.Intn(3000)
	return api.DpTaper{Wick: wick, Top: wick + r.Intn(2)*r.Intn(1500), Foot: wick + r.Intn(2)*r.Intn(1500)}
}

// anyDip is a random dip of a shop.
func anyDip(r *rand.Rand, x api.DpShop) api.DpDip {
	d := api.DpDip{Bath: r.Intn(len(x.Baths)), Seconds: min(600, x.Draw+1+r.Intn(15)), Pause: min(600, max(0, x.Set+r.Intn(60)-40)), Turned: r.Intn(2) == 0}
	if r.Intn(20) == 0 {
		d.Seconds, d.Pause = within(r, span(x.Draw+1, 600)), within(r, span(0, 600))
	}
	return d
}

// anyPlan is a random plan with at most so many dips.
func anyPlan(r *rand.Rand, x api.DpShop, most int) []api.DpDip {
	var p []api.DpDip
	for range r.Intn(most + 1) {
		p = append(p, anyDip(r, x))
	}
	return p
}

// eachCase calls a test with random shops, tapers and plans. The plans have at most so many dips, and the warmth of a bath so many numbers.
func eachCase(seed int64, times, dips, many int, test func(r *rand.Rand, x api.DpShop, t api.DpTaper, p []api.DpDip)) {
	r := rand.New(rand.NewSource(seed))
	for range times {
		x := anyShop(r, many)
		test(r, x, anyTaper(r), anyPlan(r, x, dips))
	}
}

// eachSound calls a test with random plans in which the taper is lost in no truth.
func eachSound(seed int64, times, dips, many int, test func(r *rand.Rand, x api.DpShop, t api.DpTaper, p []api.DpDip)) {
	for left, more := times, int64(0); left > 0; more++ {
		eachCase(seed+1000000*more, times, dips, many, func(r *rand.Rand, x api.DpShop, t api.DpTaper, p []api.DpDip) {
			if _, e := dip.After(x, t, p); e == api.OK && left > 0 {
				left--
				test(r, x, t, p)
			}
		})
	}
}
