package dip

import "stearin/api"

// step is a dip, in a shop that is looked at.
type step struct {
	api.DpShop
	api.DpDip
}

// warm returns how warm the bath can be.
func (s step) warm() api.Span { return s.Baths[s.Bath].Warm }

// coat returns the coat of an end that is in the bath for some seconds.
func (s step) coat(seconds, warmth int) int {
	over := warmth - s.Melt
	return s.Coat - s.Thin*over - s.Back*over*max(0, seconds-s.Hold)
}

// down returns what runs down.
func (s step) down() int { return s.Run * max(0, s.Set-s.Pause) }

// lower and upper return by how much the diameters at the two ends grow.

func (s step) lower(warmth int) int { return 2 * (s.coat(s.Seconds, warmth) + s.down()) }

func (s step) upper(warmth int) int { return 2 * (s.coat(s.Seconds-s.Draw, warmth) - s.down()) }

// top, foot and skew return by how much each figure of the taper grows.

func (s step) top(warmth int) int {
	if s.Turned {
		return s.lower(warmth)
	}
	return s.upper(warmth)
}

func (s step) foot(warmth int) int {
	if s.Turned {
		return s.upper(warmth)
	}
	return s.lower(warmth)
}

func (s step) skew(warmth int) int { return s.foot(warmth) - s.top(warmth) }

// Which figure of a taper is which.
const (
	top = iota
	foot
	skew
	manyFigures
)

// growth is how each figure grows at a warmth.
type growth [manyFigures]func(warmth int) int

// growth returns how the dip makes the figures grow.
func (s step) growth() growth { return growth{top: s.top, foot: s.foot, skew: s.skew} }

// ranges are what each figure can be.
type ranges [manyFigures]api.Span

// adds returns by how much the dip can make the figures grow. Each of them grows by so much more, or by so much less, with each tenth of a degree: it grows least at one end of the warmth, and most at the other one.
func (s step) adds() ranges {
	var r ranges
	warm := s.warm()
	for i, grows := range s.growth() {
		cool, hot := grows(warm.Lo), grows(warm.Hi)
		r[i] = api.Span{Lo: min(cool, hot), Hi: max(cool, hot)}
	}
	return r
}

// farthest returns the end of the warmth at which the skew grows most in a direction, which is 1 or -1: the lower one, if it makes no difference.
func (s step) farthest(direction int) int {
	warm := s.warm()
	if direction*s.skew(warm.Hi) > direction*s.skew(warm.Lo) {
		return warm.Hi
	}
	return warm.Lo
}

// ofTaper returns the figures of a taper.
func ofTaper(t api.DpTaper) ranges {
	return ranges{
		top:  {Lo: t.Top, Hi: t.Top},
		foot: {Lo: t.Foot, Hi: t.Foot},
		skew: {Lo: t.Foot - t.Top, Hi: t.Foot - t.Top},
	}
}

// plus returns what the figures can be after so many dips that add to them. As the warmth of each dip is any of its own, the ends of what is added are reached together.
func (r ranges) plus(times int, add ranges) ranges {
	for i, a := range add {
		r[i].Lo += times * a.Lo
		r[i].Hi += times * a.Hi
	}
	return r
}

// canLose reports whether a taper that can be like this is lost in some truth. Both ends are thinnest in the same one, with all baths as warm as they can be.
func (r ranges) canLose(wick int) bool {
	return lost(api.DpTaper{Wick: wick, Top: r[top].Lo, Foot: r[foot].Lo})
}

// lost reports whether a taper is thinner than its wick.
func lost(t api.DpTaper) bool { return t.Top < t.Wick || t.Foot < t.Wick }

// inside reports whether all figures are in the ranges of others.
func (r ranges) inside(others ranges) bool {
	for i, other := range others {
		if !inside(r[i], other) {
			return false
		}
	}
	return true
}

// inside reports whether all of a range is in another one.
func inside(s, other api.Span) bool { return other.Lo <= s.Lo && s.Hi <= other.Hi }

// straightness returns the skews of tapers that are straight within a bound.
func straightness(bound int) api.Span { return api.Span{Lo: -bound, Hi: bound} }
