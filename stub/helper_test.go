package stub_test

import (
	"cmp"
	"iter"
	"math"
	"math/rand"
	"slices"

	"stearin/api"
)

// grams is as many grams as there can be.
const grams = 1000000

// none is the reading of a point that was not weighed.
const none = -1

// span is the range from one number to another one.
func span(lo, hi int) api.Span { return api.Span{Lo: lo, Hi: hi} }

// step is a step with a name.
func step(name string, lo, hi, wrong int) api.StStep {
	return api.StStep{Name: name, Loss: span(lo, hi), Err: wrong}
}

// line is a line with steps.
func line(wrong int, steps ...api.StStep) api.StLine { return api.StLine{Err: wrong, Steps: steps} }

// example is the line L of the chapter.
func example() api.StLine {
	return line(50, step("melt", 0, 100, 20), step("strain", 50, 150, 20), step("pour", 0, 30, 10))
}

// with is the example with a change.
func with(change func(l *api.StLine)) api.StLine {
	l := example()
	change(&l)
	return l
}

// read are the readings R of the chapter.
func read() []int { return []int{1000, none, 820, 805} }

// unread are readings of points that were not weighed.
func unread(points int) []int { return slices.Repeat([]int{none}, points) }

// full is a line with as much as there can be.
func full() api.StLine {
	l := line(grams)
	for i := range 6 {
		l.Steps = append(l.Steps, step(string(rune('a'+i)), 0, grams, grams))
	}
	return l
}

// bag is a bag that can be of kinds.
func bag(lo, hi, kinds int) api.StBag { return api.StBag{Grams: span(lo, hi), Kinds: kinds} }

// sort is the sort S of the chapter, with so much foreign wax.
func sort(foreign int) api.StSort { return api.StSort{Kinds: 1, Foreign: foreign} }

// bags are A, B and C of the chapter.
func bags() []api.StBag { return []api.StBag{bag(500, 520, 1), bag(40, 60, 3), bag(100, 110, 2)} }

// outside are numbers of which none is from least to most.
func outside(least, most int) []int {
	return []int{least - 1, most + 1, least - 1000000, most + 1000000, math.MinInt, math.MaxInt, math.MinInt32, math.MaxInt32}
}

// copyOf is a copy of a line that shares nothing with it.
func copyOf(l api.StLine) api.StLine {
	l.Steps = slices.Clone(l.Steps)
	return l
}

// scales is by how much the scales at a point are wrong.
func scales(l api.StLine, point int) int {
	if point == 0 {
		return l.Err
	}
	return l.Steps[point-1].Err
}

// isTruth reports whether weights are a truth, by the definition.
func isTruth(l api.StLine, readings, weights []int) bool {
	if len(weights) != len(l.Steps)+1 {
		return false
	}
	for point, w := range weights {
		if w < 0 || w > grams {
			return false
		}
		if point > 0 {
			lost, can := weights[point-1]-w, l.Steps[point-1].Loss
			if lost < can.Lo || lost > can.Hi {
				return false
			}
		}
		if r, wrong := readings[point], scales(l, point); r != none && (w < r-wrong || w > r+wrong) {
			return false
		}
	}
	return true
}

// truths are all truths of a line.
func truths(l api.StLine, readings []int) iter.Seq[[]int] {
	least, most := 0, grams
	lo, hi := 0, 0
	for _, s := range l.Steps {
		lo, hi = lo+s.Loss.Lo, hi+s.Loss.Hi
	}
	// The sack has what is lost, and no more than that above what was weighed.
	least = lo
	for point, r := range readings {
		if r != none {
			least, most = max(least, r-scales(l, point)), min(most, r+scales(l, point)+hi)
		}
	}
	return func(yield func([]int) bool) {
		for sack := least; sack <= most; sack++ {
			if !follow(l, readings, []int{sack}, yield) {
				return
			}
		}
	}
}

// follow yields all truths that begin with weights.
func follow(l api.StLine, readings, weights []int, yield func([]int) bool) bool {
	done := len(weights) - 1
	if done == len(l.Steps) {
		return !isTruth(l, readings, weights) || yield(weights)
	}
	for lost := l.Steps[done].Loss.Lo; lost <= l.Steps[done].Loss.Hi; lost++ {
		if !follow(l, readings, append(slices.Clone(weights), weights[done]-lost), yield) {
			return false
		}
	}
	return true
}

// all are all values of a sequence.
func all[T any](s iter.Seq[T]) []T {
	var list []T
	for x := range s {
		list = append(list, x)
	}
	return list
}

// rangeOf is the range of a number in all of a list, which is not empty.
func rangeOf[T any](list []T, number func(T) int) api.Span {
	s := span(math.MaxInt, math.MinInt)
	for _, x := range list {
		s = span(min(s.Lo, number(x)), max(s.Hi, number(x)))
	}
	return s
}

// meet is what two ranges have in common.
func meet(a, b api.Span) api.Span { return span(max(a.Lo, b.Lo), min(a.Hi, b.Hi)) }

// chain is what the weights of a line can be, told by another way: step by step to the box, and back to the sack. It is nothing if there is no truth.
func chain(l api.StLine, readings []int) []api.Span {
	var list []api.Span
	for point, r := range readings {
		own := span(0, grams)
		if r != none {
			own = meet(own, span(r-scales(l, point), r+scales(l, point)))
		}
		if point > 0 {
			loss := l.Steps[point-1].Loss
			own = meet(own, span(list[point-1].Lo-loss.Hi, list[point-1].Hi-loss.Lo))
		}
		if own.Lo > own.Hi {
			return nil
		}
		list = append(list, own)
	}
	for point := len(list) - 2; point >= 0; point-- {
		loss := l.Steps[point].Loss
		list[point] = meet(list[point], span(list[point+1].Lo+loss.Lo, list[point+1].Hi+loss.Hi))
	}
	return list
}

// reach is a truth with a weight at a point, and after it as light, or as heavy, as it can be up to another point.
func reach(l api.StLine, ranges []api.Span, from, weight, to int, light bool) []int {
	weights := make([]int, len(ranges))
	weights[from] = weight
	for point := from + 1; point < len(ranges); point++ {
		loss := l.Steps[point-1].Loss
		can := meet(ranges[point], span(weights[point-1]-loss.Hi, weights[point-1]-loss.Lo))
		weights[point] = can.Hi
		if light && point <= to {
			weights[point] = can.Lo
		}
	}
	for point := from - 1; point >= 0; point-- {
		loss := l.Steps[point].Loss
		weights[point] = meet(ranges[point], span(weights[point+1]+loss.Lo, weights[point+1]+loss.Hi)).Lo
	}
	return weights
}

// anyTruth is a truth of a line, if there is one.
func anyTruth(r *rand.Rand, l api.StLine, readings []int) []int {
	var weights []int
	for point, own := range chain(l, readings) {
		if point > 0 {
			loss := l.Steps[point-1].Loss
			own = meet(own, span(weights[point-1]-loss.Hi, weights[point-1]-loss.Lo))
		}
		weights = append(weights, within(r, own))
	}
	return weights
}

// within is a number of a range, often an end.
func within(r *rand.Rand, s api.Span) int {
	switch r.Intn(4) {
	case 0:
		return s.Lo
	case 1:
		return s.Hi
	}
	return s.Lo + r.Intn(s.Hi-s.Lo+1)
}

// size is how much random lines have at most.
type size struct{ steps, loss, wrong int }

// small is so little that all truths can be tried one by one.
func small() size { return size{3, 3, 3} }

// large is as much as there can be.
func large() size { return size{6, grams / 5, grams / 5} }

// anyLine is a random line, and readings of it that were weighed in a truth, or nearly so.
func anyLine(r *rand.Rand, most size) (api.StLine, []int) {
	l := line(r.Intn(most.wrong + 1))
	for i := range 1 + r.Intn(most.steps) {
		lo := r.Intn(most.loss + 1)
		l.Steps = append(l.Steps, step(string(rune('a'+i)), lo, lo+r.Intn(most.loss+1), r.Intn(most.wrong+1)))
	}
	weight := r.Intn(4 * most.loss)
	if r.Intn(3) == 0 {
		weight = grams - weight
	}
	weights := []int{weight}
	for _, s := range l.Steps {
		weight = max(0, weight-within(r, s.Loss))
		weights = append(weights, weight)
	}
	return l, weighed(r, l, weights, r.Intn(4) == 0)
}

// weighed are readings of weights, some of them perhaps more wrong than they can be.
func weighed(r *rand.Rand, l api.StLine, weights []int, wrongly bool) []int {
	var readings []int
	for point, w := range weights {
		wrong := scales(l, point)
		if wrongly {
			wrong = 2*wrong + 2
		}
		reading := min(max(0, w+within(r, span(-wrong, wrong))), grams)
		if r.Intn(3) == 0 {
			reading = none
		}
		readings = append(readings, reading)
	}
	return readings
}

// known reports whether at least one point was weighed, so that the truths are few.
func known(readings []int) bool {
	return slices.ContainsFunc(readings, func(r int) bool { return r != none })
}

// eachLine calls a test with random lines.
func eachLine(seed int64, times int, most size, test func(r *rand.Rand, l api.StLine, readings []int)) {
	r := rand.New(rand.NewSource(seed))
	for range times {
		l, readings := anyLine(r, most)
		test(r, l, readings)
	}
}

// filled is a bag in a truth.
type filled struct{ grams, kind int }

// fillings are all that a bag can be: of each weight, or just of the least and the greatest one.
func fillings(b api.StBag, ends bool) []filled {
	var list []filled
	for weight := b.Grams.Lo; weight <= b.Grams.Hi; weight++ {
		if ends && weight != b.Grams.Lo {
			weight = b.Grams.Hi
		}
		for kind := range 8 {
			if b.Kinds>>kind&1 == 1 {
				list = append(list, filled{weight, kind})
			}
		}
	}
	return list
}

// makes reports whether bags make a sort in a truth, by the definition.
func makes(s api.StSort, truth []filled) bool {
	foreign, all := 0, 0
	for _, f := range truth {
		all += f.grams
		if s.Kinds>>f.kind&1 == 0 {
			foreign += f.grams
		}
	}
	return foreign*1000 <= s.Foreign*all
}

// judged is whether bags make a sort, told by all truths of theirs that begin with one.
func judged(s api.StSort, bags []api.StBag, ends bool, truth ...filled) (some, others bool) {
	if len(truth) == len(bags) {
		made := makes(s, truth)
		return made, !made
	}
	for _, f := range fillings(bags[len(truth)], ends) {
		a, b := judged(s, bags, ends, append(slices.Clone(truth), f)...)
		some, others = some || a, others || b
	}
	return some, others
}

// judgement is what Judge has to return.
func judgement(some, others bool) int {
	switch {
	case !others:
		return api.StSure
	case !some:
		return api.StNever
	}
	return api.StPerhaps
}

// surely reports whether bags surely make a sort, from the one truth in which they are the farthest from it.
func surely(s api.StSort, bags []api.StBag) bool {
	over := 0
	for _, b := range bags {
		worst := math.MinInt
		for _, f := range fillings(b, true) {
			own := -s.Foreign * f.grams
			if s.Kinds>>f.kind&1 == 0 {
				own += 1000 * f.grams
			}
			worst = max(worst, own)
		}
		over += worst
	}
	return over <= 0
}

// choices are all lists of indices that are below a number, ascending, that begin with some.
func choices(below int, begin ...int) [][]int {
	list := [][]int{begin}
	first := 0
	if len(begin) > 0 {
		first = begin[len(begin)-1] + 1
	}
	for i := first; i < below; i++ {
		list = append(list, choices(below, append(slices.Clone(begin), i)...)...)
	}
	return list
}

// some are the bags of a choice, and their least weight.
func some(bags []api.StBag, choice []int) (list []api.StBag, least int) {
	for _, i := range choice {
		list, least = append(list, bags[i]), least+bags[i].Grams.Lo
	}
	return list, least
}

// bestOf is the best choice, told from a list of all that surely make the sort.
func bestOf(s api.StSort, bags []api.StBag) []int {
	sure := slices.DeleteFunc(choices(len(bags)), func(c []int) bool {
		list, _ := some(bags, c)
		return !surely(s, list)
	})
	return slices.MinFunc(sure, func(a, b []int) int {
		_, heavy := some(bags, a)
		_, other := some(bags, b)
		return cmp.Or(cmp.Compare(other, heavy), cmp.Compare(len(a), len(b)), slices.Compare(a, b))
	})
}

// anyBags are a random sort and random bags, of so many grams at most, that differ so much.
func anyBags(r *rand.Rand, many, most, wide int) (api.StSort, []api.StBag) {
	s := api.StSort{Kinds: 1 + r.Intn(255), Foreign: r.Intn(1001)}
	if r.Intn(2) == 0 {
		s.Foreign = []int{0, 1, 100, 200, 500, 999, 1000}[r.Intn(7)]
	}
	var list []api.StBag
	for range r.Intn(many + 1) {
		lo := r.Intn(most - wide + 1)
		list = append(list, bag(lo, lo+r.Intn(wide+1), 1<<r.Intn(8)|r.Intn(256)&r.Intn(256)&r.Intn(256)))
	}
	if r.Intn(2) == 0 {
		for i := range list {
			list[i].Kinds = anyKinds(r, s.Kinds)
		}
	}
	return s, list
}

// anyKinds are kinds of which a sort accepts all, none, or some.
func anyKinds(r *rand.Rand, accepted int) int {
	own := 1 + r.Intn(255)
	switch r.Intn(4) {
	case 0, 1:
		own &= accepted
	case 2:
		own &^= accepted
	}
	if own == 0 {
		return accepted
	}
	return own
}

// eachBags calls a test with random bags.
func eachBags(seed int64, times, many, most, wide int, test func(r *rand.Rand, s api.StSort, bags []api.StBag)) {
	r := rand.New(rand.NewSource(seed))
	for range times {
		s, bags := anyBags(r, many, most, wide)
		test(r, s, bags)
	}
}
