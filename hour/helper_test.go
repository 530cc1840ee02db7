package hour_test

import (
	"iter"
	"math"
	"math/big"
	"math/rand"
	"slices"

	"stearin/api"
)

// As much as there can be of milligrams, and of minutes.
const (
	heaviest = 10000000
	longest  = 1000000
)

// span is the range from one number to another one.
func span(lo, hi int) api.Span { return api.Span{Lo: lo, Hi: hi} }

// kind is a kind with a name.
func kind(name string, lo, hi, rest int) api.HrKind {
	return api.HrKind{Name: name, Weight: span(lo, hi), Rest: rest}
}

// rule is a rule with a name.
func rule(name string, minutes, weight api.Span) api.HrRule {
	return api.HrRule{Name: name, Minutes: minutes, Weight: weight}
}

// mark is what a candle weighed at a minute.
func mark(minute, weight int) api.HrMark { return api.HrMark{Minute: minute, Weight: weight} }

// burnt is a test of the first kind.
func burnt(wrong int, marks ...api.HrMark) api.HrTest { return api.HrTest{Error: wrong, Marks: marks} }

// of is a test of another kind.
func of(kind int, t api.HrTest) api.HrTest {
	t.Kind = kind
	return t
}

// lost is a test of the first kind, without an error, whose rate is this one, in milligrams an hour.
func lost(rate int) api.HrTest { return burnt(0, mark(0, rate), mark(60, 0)) }

// example is the shop S of the chapter.
func example() api.HrShop {
	return api.HrShop{
		Kinds:  []api.HrKind{kind("altar", 100000, 101000, 1000)},
		Rules:  []api.HrRule{rule("church", span(1200, 2000), span(90000, 110000)), rule("lamp", span(1400, 2000), span(0, heaviest))},
		Margin: 100,
	}
}

// exampleT is the test T of the chapter.
func exampleT() api.HrTest { return burnt(50, mark(0, 100500), mark(60, 96500), mark(120, 92400)) }

// exampleU is the test U of the chapter.
func exampleU() api.HrTest {
	return burnt(50, mark(0, 100000), mark(60, 96000), mark(120, 91000), mark(180, 88000))
}

// works is a shop with three kinds and three rules.
func works() api.HrShop {
	s := example()
	s.Kinds = append(s.Kinds, kind("lamp", 50, 60, 10), kind("birthday", 5000, 5100, 0))
	s.Rules = append(s.Rules, rule("birthday", span(20, 90), span(5000, 5100)))
	return s
}

// with is the shop with three kinds and three rules, with a change.
func with(change func(s *api.HrShop)) api.HrShop {
	s := works()
	change(&s)
	return s
}

// full is a shop with as much as there can be.
func full() api.HrShop {
	s := api.HrShop{Margin: 500}
	for i := range 6 {
		name := string(rune('a' + i))
		s.Kinds = append(s.Kinds, kind(name, heaviest, heaviest, heaviest-1))
		s.Rules = append(s.Rules, rule(name, span(0, longest), span(0, heaviest)))
	}
	return s
}

// outside are numbers of which none is from least to most.
func outside(least, most int) []int {
	return []int{least - 1, most + 1, least - 10000000, most + 10000000, math.MinInt, math.MaxInt, math.MinInt32 - 1, math.MaxInt32}
}

// copyOf is a copy of a test that shares nothing with it.
func copyOf(t api.HrTest) api.HrTest {
	t.Marks = slices.Clone(t.Marks)
	return t
}

// less is a test without one of its marks.
func less(t api.HrTest, at int) api.HrTest {
	t.Marks = slices.Delete(slices.Clone(t.Marks), at, at+1)
	return t
}

// number is a whole number as a fraction.
func number(n int) *big.Rat { return big.NewRat(int64(n), 1) }

// times is a product.
func times(a, b *big.Rat) *big.Rat { return new(big.Rat).Mul(a, b) }

// plus is a sum.
func plus(a, b *big.Rat) *big.Rat { return new(big.Rat).Add(a, b) }

// minus is a difference.
func minus(a, b *big.Rat) *big.Rat { return new(big.Rat).Sub(a, b) }

// over is a quotient.
func over(a, b *big.Rat) *big.Rat { return new(big.Rat).Quo(a, b) }

// floor is the greatest whole number that is not above a fraction.
func floor(a *big.Rat) int {
	q := new(big.Int).Div(a.Num(), a.Denom())
	return int(q.Int64())
}

// ceil is the least whole number that is not below a fraction.
func ceil(a *big.Rat) int { return -floor(new(big.Rat).Neg(a)) }

// hourly is a range of rates a minute in milligrams an hour, as the chapter rounds them.
func hourly(least, greatest *big.Rat) api.Span {
	return span(max(0, floor(times(least, number(60)))), max(0, ceil(times(greatest, number(60)))))
}

// truth is a weight at the minute 0, and a rate a minute.
type truth struct{ weight, rate *big.Rat }

// at is what a candle weighs at a minute.
func (x truth) at(minute int) *big.Rat { return minus(x.weight, times(x.rate, number(minute))) }

// explains reports whether a truth is one of a test.
func (x truth) explains(t api.HrTest) bool {
	for _, m := range t.Marks {
		off := minus(x.at(m.Minute), number(m.Weight))
		if off.Abs(off).Cmp(number(t.Error)) > 0 {
			return false
		}
	}
	return true
}

// corners yields all truths of a test at which two scales are wrong by as much as they can be: the least and the greatest rate are among theirs.
func corners(t api.HrTest) iter.Seq[truth] {
	return func(yield func(x truth) bool) {
		for i, a := range t.Marks {
			for _, b := range t.Marks[i+1:] {
				for _, signs := range [][2]int{{-1, -1}, {-1, 1}, {1, -1}, {1, 1}} {
					first, second := number(a.Weight+signs[0]*t.Error), number(b.Weight+signs[1]*t.Error)
					rate := over(minus(first, second), number(b.Minute-a.Minute))
					x := truth{plus(first, times(rate, number(a.Minute))), rate}
					if x.explains(t) && !yield(x) {
						return
					}
				}
			}
		}
	}
}

// extremes are truths with the least and with the greatest rate of a test, if it has any.
func extremes(t api.HrTest) (least, greatest truth, possible bool) {
	for x := range corners(t) {
		if !possible || x.rate.Cmp(least.rate) < 0 {
			least = x
		}
		if !possible || x.rate.Cmp(greatest.rate) > 0 {
			greatest = x
		}
		possible = true
	}
	return least, greatest, possible
}

// rateBy is the rate of a test by its corners, if it is possible.
func rateBy(t api.HrTest) (api.Span, bool) {
	least, greatest, possible := extremes(t)
	if !possible {
		return api.Span{}, false
	}
	return hourly(least.rate, greatest.rate), true
}

// ratesBy are the rates of a kind by the corners of all its tests, and the error of Rates.
func ratesBy(s api.HrShop, l []api.HrTest, kind int) (api.Span, api.Errno) {
	found, all := false, api.Span{}
	for _, t := range l {
		if t.Kind != kind {
			continue
		}
		one, possible := rateBy(t)
		if !possible {
			continue
		}
		if !found {
			found, all = true, one
		}
		all = span(min(all.Lo, one.Lo), max(all.Hi, one.Hi))
	}
	if !found {
		return api.Span{}, api.ErrDown
	}
	if all.Hi == 0 {
		return api.Span{}, api.ErrZero
	}
	slow, fast := big.NewRat(int64(1000-s.Margin), 1000), big.NewRat(int64(1000+s.Margin), 1000)
	return span(floor(times(number(all.Lo), slow)), ceil(times(number(all.Hi), fast))), api.OK
}

// candle is a weight, what is left of it, and a rate in milligrams an hour.
type candle struct {
	weight, rest int
	rate         *big.Rat
}

// burnsFor reports whether a candle burns for so many minutes at least.
func (c candle) burnsFor(minutes *big.Rat) bool {
	return over(times(c.rate, minutes), number(60)).Cmp(number(c.weight-c.rest)) <= 0
}

// isOutBy reports whether a candle burns for so many minutes at most.
func (c candle) isOutBy(minutes *big.Rat) bool {
	return over(times(c.rate, minutes), number(60)).Cmp(number(c.weight-c.rest)) >= 0
}

// candles yields candles of a kind at both ends of its weight and its rates, and some random ones between them.
func candles(r *rand.Rand, k api.HrKind, rates api.Span, many int) iter.Seq[candle] {
	return func(yield func(c candle) bool) {
		for _, weight := range []int{k.Weight.Lo, k.Weight.Hi} {
			for _, rate := range []int{rates.Lo, rates.Hi} {
				if !yield(candle{weight, k.Rest, number(rate)}) {
					return
				}
			}
		}
		for range many {
			weight := k.Weight.Lo + r.Intn(k.Weight.Hi-k.Weight.Lo+1)
			rate := plus(number(rates.Lo), times(number(rates.Hi-rates.Lo), part(r)))
			if !yield(candle{weight, k.Rest, rate}) {
				return
			}
		}
	}
}

// part is a random number from 0 to 1.
func part(r *rand.Rand) *big.Rat {
	n := 1 + r.Int63n(1000)
	return big.NewRat(r.Int63n(n+1), n)
}

// minutesBy is for how many minutes candles at the ends burn, as the chapter rounds it.
func minutesBy(k api.HrKind, rates api.Span) api.Span {
	most := span(longest, longest)
	if rates.Hi > 0 {
		most.Lo = min(most.Lo, floor(over(number(60*(k.Weight.Lo-k.Rest)), number(rates.Hi))))
	}
	if rates.Lo > 0 {
		most.Hi = min(most.Hi, ceil(over(number(60*(k.Weight.Hi-k.Rest)), number(rates.Lo))))
	}
	return most
}

// size is how much there can be in random shops and tests: milligrams, by how many of them scales are wrong, minutes from mark to mark, and milligrams a minute.
type size struct{ weight, wrong, step, rate int }

// small is little enough for numbers to meet each other often.
func small() size { return size{60, 3, 4, 5} }

// large is as much as there can be.
func large() size { return size{heaviest, 10000, 200000, 100000} }

// sized is one of both.
func sized(r *rand.Rand) size {
	if r.Intn(2) == 0 {
		return large()
	}
	return small()
}

// anyTruth is a random truth, mostly of a candle that burns, and not all of which is burnt after so many minutes.
func anyTruth(r *rand.Rand, z size, minutes int) truth {
	weight := times(part(r), number(z.weight))
	rate := over(weight, number(max(1, minutes)))
	if most := number(z.rate); rate.Cmp(most) > 0 {
		rate = most
	}
	x := truth{weight, times(part(r), rate)}
	if r.Intn(10) == 0 {
		x.rate.Neg(x.rate)
	}
	return x
}

// anyMinutes are random minutes, ascending.
func anyMinutes(r *rand.Rand, z size, many int) []int {
	step := 1 + r.Intn(z.step)
	minute := r.Intn(step)
	list := []int{minute}
	for len(list) < many {
		minute = min(longest-many+len(list)+1, minute+1+r.Intn(step))
		list = append(list, minute)
	}
	return list
}

// testOf is a random test that a truth explains, if there is one with these minutes.
func testOf(r *rand.Rand, z size, x truth, minutes []int) (t api.HrTest, ok bool) {
	t = burnt(r.Intn(z.wrong + 1))
	for _, minute := range minutes {
		least := max(0, ceil(minus(x.at(minute), number(t.Error))))
		most := min(heaviest, floor(plus(x.at(minute), number(t.Error))))
		if least > most {
			return api.HrTest{}, false
		}
		weight := least + r.Intn(most-least+1)
		if r.Intn(4) == 0 {
			weight = []int{least, most}[r.Intn(2)]
		}
		t.Marks = append(t.Marks, mark(minute, weight))
	}
	return t, true
}

// trueTest is a random truth, and a random test that it explains.
func trueTest(r *rand.Rand, z size, many int) (truth, api.HrTest) {
	for {
		minutes := anyMinutes(r, z, many)
		x := anyTruth(r, z, minutes[many-1])
		if r.Intn(4) == 0 {
			// Without an error only whole weights can be read.
			x = truth{number(floor(x.weight)), number(floor(x.rate))}
		}
		if t, ok := testOf(r, z, x, minutes); ok {
			return x, t
		}
	}
}

// anyTest is a random test: one with a truth, one with a wrong mark, or one of any marks.
func anyTest(r *rand.Rand, z size) api.HrTest {
	many := 2 + r.Intn(9)
	_, t := trueTest(r, z, many)
	switch r.Intn(4) {
	case 0:
		at := r.Intn(many)
		t.Marks[at].Weight = max(0, min(heaviest, t.Marks[at].Weight+r.Intn(10*z.wrong)-5*z.wrong))
	case 1:
		if r.Intn(4) == 0 {
			for i := range t.Marks {
				t.Marks[i].Weight = r.Intn(z.weight + 1)
			}
		}
	}
	return t
}

// anyKind is a random kind.
func anyKind(r *rand.Rand, z size, name string) api.HrKind {
	lo := 1 + r.Intn(z.weight)
	hi := lo + r.Intn(z.weight-lo+1)
	return kind(name, lo, hi, r.Intn(lo))
}

// anySpan is a random range of numbers that are not above most.
func anySpan(r *rand.Rand, most int) api.Span {
	lo := r.Intn(most + 1)
	return span(lo, lo+r.Intn(most-lo+1))
}

// anyShop is a random shop.
func anyShop(r *rand.Rand, z size) api.HrShop {
	s := api.HrShop{Margin: []int{0, 500, r.Intn(501)}[r.Intn(3)]}
	for i := range 1 + r.Intn(6) {
		s.Kinds = append(s.Kinds, anyKind(r, z, string(rune('a'+i))))
	}
	for i := range r.Intn(7) {
		s.Rules = append(s.Rules, rule(string(rune('a'+i)), anySpan(r, longest), anySpan(r, heaviest)))
	}
	return s
}

// eachWorks calls a test with random shops, and random tests of their kinds.
func eachWorks(seed int64, times int, z size, test func(r *rand.Rand, s api.HrShop, l []api.HrTest)) {
	r := rand.New(rand.NewSource(seed))
	for range times {
		s := anyShop(r, z)
		var l []api.HrTest
		for range 1 + r.Intn(8) {
			l = append(l, of(r.Intn(len(s.Kinds)), anyTest(r, z)))
		}
		test(r, s, l)
	}
}
