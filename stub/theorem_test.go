package stub_test

import (
	"math/rand"
	"slices"
	"testing"

	"stearin/api"
	"stearin/stub"
)

// errorOf is an error, if something is not so.
func errorOf(so bool, e api.Errno) api.Errno {
	if so {
		return api.OK
	}
	return e
}

// without are readings without the one of a point.
func without(readings []int, point int) []int {
	readings = slices.Clone(readings)
	readings[point] = none
	return readings
}

// cheating are the points of which each one, if its reading is left out, leaves a truth, and the error, if it is told whether there is one.
func cheating(readings []int, possible func(readings []int) bool) ([]int, api.Errno) {
	if possible(readings) {
		return nil, api.ErrNone
	}
	var list []int
	for point, r := range readings {
		if r != none && possible(without(readings, point)) {
			list = append(list, point)
		}
	}
	return list, errorOf(len(list) > 0, api.ErrDown)
}

// P8.2, P8.5: all truths of short lines.
func TestWeightsAndLostByAllTruths(t *testing.T) {
	many := map[api.Errno]int{}
	eachLine(805, 3000, small(), func(r *rand.Rand, l api.StLine, readings []int) {
		if !known(readings) {
			return
		}
		list := all(truths(l, readings))
		want := errorOf(len(list) > 0, api.ErrDown)
		many[want]++
		got, e := stub.Weights(l, readings)
		if e != want || e == api.OK && len(got) != len(readings) {
			t.Fatalf("%v, %v: Weights = %v, %d, not %d", l, readings, got, e, want)
		}
		for from := range readings {
			if own := rangeOf(list, func(w []int) int { return w[from] }); e == api.OK && got[from] != own {
				t.Fatalf("%v, %v: Weights = %v, but at %d %v", l, readings, got, from, own)
			}
			for to := from + 1; to < len(readings); to++ {
				lost, e := stub.Lost(l, readings, from, to)
				own := rangeOf(list, func(w []int) int { return w[from] - w[to] })
				if e != want || e == api.OK && lost != own {
					t.Fatalf("%v, %v: Lost from %d to %d = %v, %d, not %v, %d", l, readings, from, to, lost, e, own, want)
				}
			}
		}
	})
	if many[api.OK] < 1000 || many[api.ErrDown] < 100 {
		t.Errorf("%v", many)
	}
}

// P8.3: all truths of short lines, without each of their readings.
func TestCheatsAndOffByAllTruths(t *testing.T) {
	many := map[api.Errno]int{}
	eachLine(803, 3000, small(), func(r *rand.Rand, l api.StLine, readings []int) {
		for point, reading := range readings {
			rest := without(readings, point)
			if reading == none || !known(rest) {
				continue
			}
			list := all(truths(l, rest))
			want := errorOf(len(list) > 0, api.ErrDown)
			own := rangeOf(list, func(w []int) int { return reading - w[point] })
			if got, e := stub.Off(l, readings, point); e != want || e == api.OK && got != own {
				t.Fatalf("%v, %v: Off at %d = %v, %d, not %v, %d", l, readings, point, got, e, own, want)
			}
		}
		if !known(readings) {
			return
		}
		want, f := cheating(readings, func(readings []int) bool {
			for range truths(l, readings) {
				return true
			}
			return false
		})
		many[f]++
		if got, e := stub.Cheats(l, readings); e != f || !slices.Equal(got, want) {
			t.Fatalf("%v, %v: Cheats = %v, %d, not %v, %d", l, readings, got, e, want, f)
		}
	})
	if many[api.OK] < 200 || many[api.ErrDown] < 20 || many[api.ErrNone] < 1000 {
		t.Errorf("%v", many)
	}
}

// P8.2, P8.5: long lines. What the weights are is told by another way, and each end is reached in a truth.
func TestEachEndIsReached(t *testing.T) {
	many := map[api.Errno]int{}
	eachLine(8050, 5000, large(), func(r *rand.Rand, l api.StLine, readings []int) {
		ranges := chain(l, readings)
		want := errorOf(ranges != nil, api.ErrDown)
		many[want]++
		got, e := stub.Weights(l, readings)
		if e != want || !slices.Equal(got, ranges) {
			t.Fatalf("%v, %v: Weights = %v, %d, not %v", l, readings, got, e, ranges)
		}
		for from, own := range ranges {
			for to := from + 1; to < len(ranges); to++ {
				light, heavy := reach(l, ranges, from, own.Hi, to, true), reach(l, ranges, from, own.Lo, to, false)
				if !isTruth(l, readings, light) || !isTruth(l, readings, heavy) {
					t.Fatalf("%v, %v: %v, %v", l, readings, light, heavy)
				}
				lost, e := stub.Lost(l, readings, from, to)
				if own := span(heavy[from]-heavy[to], light[from]-light[to]); lost != own || e != api.OK {
					t.Fatalf("%v, %v: Lost from %d to %d = %v, %d, not %v", l, readings, from, to, lost, e, own)
				}
			}
		}
	})
	if many[api.OK] < 2000 || many[api.ErrDown] < 200 {
		t.Errorf("%v", many)
	}
}

// P8.5, T1: random truths of long lines.
func TestNoTruthIsOutside(t *testing.T) {
	truths := 0
	eachLine(8051, 3000, large(), func(r *rand.Rand, l api.StLine, readings []int) {
		ranges, e := stub.Weights(l, readings)
		if e != api.OK {
			return
		}
		for range 10 {
			truths++
			weights := anyTruth(r, l, readings)
			if !isTruth(l, readings, weights) {
				t.Fatalf("%v, %v: %v", l, readings, weights)
			}
			for from, w := range weights {
				if w < ranges[from].Lo || w > ranges[from].Hi {
					t.Fatalf("%v, %v: %v is not in %v", l, readings, weights, ranges)
				}
				for to := from + 1; to < len(weights); to++ {
					lost, e := stub.Lost(l, readings, from, to)
					if n := w - weights[to]; e != api.OK || n < lost.Lo || n > lost.Hi {
						t.Fatalf("%v, %v: %v loses from %d to %d not %v, %d", l, readings, weights, from, to, lost, e)
					}
				}
			}
		}
	})
	if truths < 10000 {
		t.Errorf("%d truths", truths)
	}
}

// plus is what two numbers are together, of two ranges.
func plus(a, b api.Span) api.Span { return span(a.Lo+b.Lo, a.Hi+b.Hi) }

// inside reports whether a range lies within another one.
func inside(a, b api.Span) bool { return b.Lo <= a.Lo && a.Lo <= a.Hi && a.Hi <= b.Hi }

// P8.6, T1: what is lost is lost once.
func TestConserved(t *testing.T) {
	many := 0
	check := func(r *rand.Rand, l api.StLine, readings []int) {
		for first := range readings {
			steps := api.Span{}
			for last := first + 1; last < len(readings); last++ {
				steps = plus(steps, l.Steps[last-1].Loss)
				whole, e := stub.Lost(l, readings, first, last)
				if e != api.OK {
					return
				}
				if !inside(whole, steps) {
					t.Fatalf("%v, %v: from %d to %d %v, although the steps lose %v", l, readings, first, last, whole, steps)
				}
				for between := first + 1; between < last; between++ {
					many++
					before, e := stub.Lost(l, readings, first, between)
					behind, f := stub.Lost(l, readings, between, last)
					if !inside(whole, plus(before, behind)) || e != api.OK || f != api.OK {
						t.Fatalf("%v, %v: %v from %d to %d, but %v and %v over %d", l, readings, whole, first, last, before, behind, between)
					}
				}
			}
		}
	}
	eachLine(806, 2000, large(), check)
	eachLine(8060, 2000, small(), check)
	if many < 8000 {
		t.Errorf("%d", many)
	}
}

// P8.7: a reading of a truth that is more wrong than the scales can be.
func TestACheatIsNamed(t *testing.T) {
	many, named := 0, 0
	check := func(r *rand.Rand, l api.StLine, readings []int) {
		if chain(l, readings) == nil {
			return
		}
		weights := anyTruth(r, l, readings)
		for point, w := range weights {
			cheated := slices.Clone(readings)
			more := scales(l, point) + 1 + r.Intn(scales(l, point)+grams/20)
			cheated[point] = w + more*(1-2*r.Intn(2))
			if cheated[point] < 0 || cheated[point] > grams {
				continue
			}
			many++
			list, e := stub.Cheats(l, cheated)
			if _, f := stub.Weights(l, cheated); (f == api.OK) != (e == api.ErrNone) {
				t.Fatalf("%v, %v: Cheats = %v, %d, Weights %d", l, cheated, list, e, f)
			}
			if e == api.OK {
				named++
			}
			if e != api.ErrNone && (e != api.OK || !slices.Contains(list, point)) {
				t.Fatalf("%v, %v: Cheats = %v, %d without %d", l, cheated, list, e, point)
			}
			off, e := stub.Off(l, cheated, point)
			if n := cheated[point] - w; e != api.OK || n < off.Lo || n > off.Hi {
				t.Fatalf("%v, %v: Off at %d = %v, %d without %d", l, cheated, point, off, e, n)
			}
		}
	}
	eachLine(807, 3000, large(), check)
	eachLine(8070, 3000, size{6, 5, 5}, check)
	if many < 5000 || named < 2000 || named > many-1000 {
		t.Errorf("%d of %d", named, many)
	}
}

// P8.3: long lines. Whether there is a truth is told by another way.
func TestCheatsOfLongLines(t *testing.T) {
	for _, most := range []size{large(), {6, 3, 3}, {6, 100, 10}} {
		many := map[api.Errno]int{}
		eachLine(8030, 3000, most, func(r *rand.Rand, l api.StLine, readings []int) {
			want, f := cheating(readings, func(readings []int) bool { return chain(l, readings) != nil })
			many[f]++
			if got, e := stub.Cheats(l, readings); e != f || !slices.Equal(got, want) {
				t.Fatalf("%v, %v: Cheats = %v, %d, not %v, %d", l, readings, got, e, want, f)
			}
			for point, reading := range readings {
				if reading == none {
					continue
				}
				ranges := chain(l, without(readings, point))
				got, e := stub.Off(l, readings, point)
				if ranges == nil && e == api.ErrDown {
					continue
				}
				if ranges == nil || e != api.OK || got != span(reading-ranges[point].Hi, reading-ranges[point].Lo) {
					t.Fatalf("%v, %v: Off at %d = %v, %d, not from %v", l, readings, point, got, e, ranges)
				}
			}
		})
		if many[api.OK] < 100 || many[api.ErrDown] < 10 || many[api.ErrNone] < 1000 {
			t.Errorf("%v", many)
		}
	}
}

// two are two kinds of a set at most, so that the truths are few.
func two(r *rand.Rand, kinds int) int {
	list := fillings(bag(0, 0, kinds), true)
	return 1<<list[r.Intn(len(list))].kind | 1<<list[r.Intn(len(list))].kind
}

// P8.8, T2: all truths of a few bags.
func TestJudgeByAllTruths(t *testing.T) {
	many := map[int]int{}
	eachBags(808, 4000, 4, 12, 3, func(r *rand.Rand, s api.StSort, bags []api.StBag) {
		for i := range bags {
			bags[i].Kinds = two(r, bags[i].Kinds)
		}
		want := judgement(judged(s, bags, false))
		many[want]++
		if got, e := stub.Judge(s, bags); got != want || e != api.OK {
			t.Fatalf("%v, %v: Judge = %d, %d, not %d", s, bags, got, e, want)
		}
	})
	if many[api.StSure] < 500 || many[api.StNever] < 500 || many[api.StPerhaps] < 500 {
		t.Errorf("%v", many)
	}
}

// P8.8, T2: heavy bags. How foreign they are is the most, and the least, where each one is as heavy or as light as it can be.
func TestJudgeByTheEnds(t *testing.T) {
	many := map[int]int{}
	eachBags(8080, 2000, 3, grams, grams/3, func(r *rand.Rand, s api.StSort, bags []api.StBag) {
		want := judgement(judged(s, bags, true))
		many[want]++
		if got, e := stub.Judge(s, bags); got != want || e != api.OK {
			t.Fatalf("%v, %v: Judge = %d, %d, not %d", s, bags, got, e, want)
		}
	})
	if many[api.StSure] < 200 || many[api.StNever] < 200 || many[api.StPerhaps] < 200 {
		t.Errorf("%v", many)
	}
}

// P8.8, T2: random truths of many bags.
func TestNoTruthIsJudgedWrong(t *testing.T) {
	many := map[int]int{}
	eachBags(8081, 3000, 10, grams, grams/10, func(r *rand.Rand, s api.StSort, bags []api.StBag) {
		got, e := stub.Judge(s, bags)
		if e != api.OK {
			t.Fatalf("%v, %v: Judge = %d, %d", s, bags, got, e)
		}
		many[got]++
		for range 20 {
			var truth []filled
			for _, b := range bags {
				list := fillings(bag(0, 0, b.Kinds), true)
				truth = append(truth, filled{within(r, b.Grams), list[r.Intn(len(list))].kind})
			}
			if made := makes(s, truth); got == api.StSure && !made || got == api.StNever && made {
				t.Fatalf("%v, %v: Judge = %d, but %v", s, bags, got, truth)
			}
		}
		if (got == api.StSure) != surely(s, bags) {
			t.Fatalf("%v, %v: Judge = %d", s, bags, got)
		}
	})
	if many[api.StSure] < 300 || many[api.StNever] < 300 || many[api.StPerhaps] < 300 {
		t.Errorf("%v", many)
	}
}

// P8.4, P8.9: all choices are tried one by one.
func TestBestByAllChoices(t *testing.T) {
	some := 0
	check := func(r *rand.Rand, s api.StSort, bags []api.StBag) {
		want := bestOf(s, bags)
		if got, e := stub.Best(s, bags); !slices.Equal(got, want) || e != api.OK {
			t.Fatalf("%v, %v: Best = %v, %d, not %v", s, bags, got, e, want)
		}
		if len(want) > 0 && len(want) < len(bags) {
			some++
		}
	}
	// Light bags are often as heavy as others.
	eachBags(809, 1500, 6, 5, 1, check)
	eachBags(8090, 1500, 6, 3, 0, check)
	eachBags(8091, 500, 7, grams, 1000, check)
	eachBags(8092, 60, 10, 4, 1, check)
	eachBags(8093, 60, 10, grams, grams/10, check)
	if some < 1000 {
		t.Errorf("%d", some)
	}
}

// P8.9: no other choice that surely makes the sort is heavier.
func TestNoOtherChoiceIsHeavier(t *testing.T) {
	eachBags(8094, 200, 10, grams, grams/20, func(r *rand.Rand, s api.StSort, bags []api.StBag) {
		best, e := stub.Best(s, bags)
		chosen, most := some(bags, best)
		if made, f := stub.Judge(s, chosen); made != api.StSure || e != api.OK || f != api.OK {
			t.Fatalf("%v, %v: Best = %v, %d, but Judge = %d, %d", s, bags, best, e, made, f)
		}
		for range 100 {
			var choice []int
			for i := range bags {
				if r.Intn(3) > 0 {
					choice = append(choice, i)
				}
			}
			list, least := some(bags, choice)
			if made, _ := stub.Judge(s, list); made == api.StSure && least > most {
				t.Fatalf("%v, %v: Best = %v, but %v", s, bags, best, choice)
			}
		}
	})
}

// rangesOf are all ranges of a line, and whether there is a truth.
func rangesOf(l api.StLine, readings []int) ([]api.Span, bool) {
	list, e := stub.Weights(l, readings)
	for from := range readings {
		for to := from + 1; to < len(readings); to++ {
			lost, _ := stub.Lost(l, readings, from, to)
			list = append(list, lost)
		}
	}
	return list, e == api.OK
}

// P8.10: with a further reading, or better scales, no range is wider.
func TestMoreIsRead(t *testing.T) {
	many := 0
	check := func(r *rand.Rand, l api.StLine, readings []int) {
		better, more := copyOf(l), slices.Clone(readings)
		weights := anyTruth(r, l, readings)
		switch point := r.Intn(len(readings)); {
		case r.Intn(2) == 0 && weights != nil && readings[point] == none:
			more[point] = min(max(0, weights[point]+within(r, span(-scales(l, point), scales(l, point)))), grams)
		case point == 0:
			better.Err = r.Intn(l.Err + 1)
		default:
			better.Steps[point-1].Err = r.Intn(better.Steps[point-1].Err + 1)
		}
		before, possible := rangesOf(l, readings)
		behind, still := rangesOf(better, more)
		if still && !possible {
			t.Fatalf("%v, %v; %v, %v", l, readings, better, more)
		}
		for i := range behind {
			if still && !inside(behind[i], before[i]) {
				t.Fatalf("%v, %v: %v, but %v, %v: %v", l, readings, before, better, more, behind)
			}
		}
		for point := range readings {
			if readings[point] == none {
				continue
			}
			wide, e := stub.Off(l, readings, point)
			close, f := stub.Off(better, more, point)
			if f == api.OK && (e != api.OK || !inside(close, wide)) {
				t.Fatalf("%v, %v: Off at %d = %v, %d, but %v, %v: %v", l, readings, point, wide, e, better, more, close)
			}
			if f == api.OK {
				many++
			}
		}
	}
	eachLine(810, 3000, large(), check)
	eachLine(8100, 3000, size{6, 4, 4}, check)
	if many < 5000 {
		t.Errorf("%d", many)
	}
}

// P8.11: a milder sort, one more bag of it, and bags that are known better.
func TestMilder(t *testing.T) {
	many := map[int]int{}
	check := func(r *rand.Rand, s api.StSort, bags []api.StBag) {
		before, _ := stub.Judge(s, bags)
		many[before]++
		milder, more, better := s, slices.Clone(bags), slices.Clone(bags)
		milder.Foreign += r.Intn(1001 - s.Foreign)
		milder.Kinds |= r.Intn(256)
		more = slices.Insert(more, r.Intn(len(more)+1), bag(0, r.Intn(grams), s.Kinds&(1+r.Intn(255))|s.Kinds&-s.Kinds))
		for i, b := range better {
			if fewer := b.Kinds & r.Intn(256); fewer != 0 {
				better[i].Kinds = fewer
			}
		}
		if got, e := stub.Judge(milder, bags); before == api.StSure && got != before || e != api.OK {
			t.Fatalf("%v, %v, then %v: %d", s, bags, milder, got)
		}
		if got, e := stub.Judge(s, more); before == api.StSure && got != before || e != api.OK {
			t.Fatalf("%v, %v, then %v: %d", s, bags, more, got)
		}
		if got, e := stub.Judge(s, better); before != api.StPerhaps && got != before || e != api.OK {
			t.Fatalf("%v, %v, then %v: %d, not %d", s, bags, better, got, before)
		}
	}
	eachBags(811, 5000, 9, grams, grams/10, check)
	eachBags(8110, 5000, 4, 10, 2, check)
	if many[api.StSure] < 1000 || many[api.StNever] < 1000 || many[api.StPerhaps] < 1000 {
		t.Errorf("%v", many)
	}
}

// P8.12: bags in any order.
func TestAnyOrder(t *testing.T) {
	eachBags(812, 2000, 10, 20, 3, func(r *rand.Rand, s api.StSort, bags []api.StBag) {
		want, _ := stub.Judge(s, bags)
		best, _ := stub.Best(s, bags)
		_, heavy := some(bags, best)
		for range 5 {
			r.Shuffle(len(bags), func(i, j int) { bags[i], bags[j] = bags[j], bags[i] })
			if got, e := stub.Judge(s, bags); got != want || e != api.OK {
				t.Fatalf("%v, %v: Judge = %d, %d, not %d", s, bags, got, e, want)
			}
			other, e := stub.Best(s, bags)
			if _, least := some(bags, other); least != heavy || len(other) != len(best) || e != api.OK {
				t.Fatalf("%v, %v: Best = %v, %d", s, bags, other, e)
			}
		}
	})
}
