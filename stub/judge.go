package stub

import "stearin/api"

// judge is a sort against which bags are held.
type judge struct{ api.StSort }

// mayBeForeign reports whether a bag can be of a kind that the sort does not accept.
func (j judge) mayBeForeign(b api.StBag) bool { return b.Kinds&^j.Kinds != 0 }

// mustBeForeign reports whether a bag can just be of such kinds.
func (j judge) mustBeForeign(b api.StBag) bool { return b.Kinds&j.Kinds == 0 }

// of returns whether bags make the sort.
func (j judge) of(bags []api.StBag) int {
	// The most foreign wax there can be is what can be foreign as heavy, and the rest as light, as it can be; the least one the other way round.
	switch {
	case j.accepts(bags, j.mayBeForeign, most, least):
		return api.StSure
	case j.accepts(bags, j.mustBeForeign, least, most):
		return api.StPerhaps
	}
	return api.StNever
}

// accepts reports whether bags make the sort if just those are foreign of which this is told, and if they, and the other ones, weigh as much of their grams.
func (j judge) accepts(bags []api.StBag, foreign func(api.StBag) bool, ofForeign, ofOthers func(api.Span) int) bool {
	bad, good := 0, 0
	for _, b := range bags {
		if foreign(b) {
			bad += ofForeign(b.Grams)
		} else {
			good += ofOthers(b.Grams)
		}
	}
	return bad*api.All <= j.Foreign*(bad+good)
}

// least returns the least number of a range.
func least(s api.Span) int { return s.Lo }

// most returns the greatest number of a range.
func most(s api.Span) int { return s.Hi }
