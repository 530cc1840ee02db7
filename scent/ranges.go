package scent

import "stearin/api"

// ranges is a range for each thing, and zero for each one that the shop has not: so two of them are the same as a whole just if they are so for all things of the shop.
type ranges [api.MaxScThings]api.Span

// rangesOf returns the ranges of a list.
func rangesOf(list []api.Span) (r ranges) {
	copy(r[:], list)
	return r
}

// exactly returns the ranges in which there is just one number of a list.
func exactly(numbers []int) (r ranges) {
	for thing, n := range numbers {
		r[thing] = api.Span{Lo: n, Hi: n}
	}
	return r
}

// least and most return the ends for a thing.

func (r ranges) least(thing int) int { return r[thing].Lo }
func (r ranges) most(thing int) int  { return r[thing].Hi }

// add adds so many times the ends of other ranges.
func (r *ranges) add(times int, others ranges) {
	for thing, other := range others {
		r[thing].Lo += times * other.Lo
		r[thing].Hi += times * other.Hi
	}
}

// liesIn reports whether all ranges are within others: they are so just if they stay what they are when they are cut to them.
func (r ranges) liesIn(others ranges) bool {
	cut := r
	for thing, other := range others {
		cut[thing].Lo = max(cut[thing].Lo, other.Lo)
		cut[thing].Hi = min(cut[thing].Hi, other.Hi)
	}
	return cut == r
}

// floor returns a divided by b, which is positive, rounded down.
func floor(a, b int) int {
	if a%b < 0 {
		return a/b - 1
	}
	return a / b
}

// ceil returns a divided by b, which is positive, rounded up.
func ceil(a, b int) int { return -floor(-a, b) }
