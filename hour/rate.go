package hour

import (
	"iter"
	"slices"

	"stearin/api"
)

// perHour is how many minutes an hour has.
const perHour = 60

// fraction is a number divided by another one, which is not below 0. If that is 0, and the first one is not, it is above all numbers; the zero value is none.
type fraction struct{ over, under int }

// whole returns a whole number as a fraction.
func whole(n int) fraction { return fraction{n, 1} }

// below reports whether a fraction is less than another one.
func (f fraction) below(other fraction) bool { return f.over*other.under < other.over*f.under }

// above reports whether a fraction is greater than another one.
func (f fraction) above(other fraction) bool { return other.below(f) }

// atMost returns a fraction, or the most that it can be told as.
func (f fraction) atMost(most fraction) fraction {
	if f.above(most) {
		return most
	}
	return f
}

// down returns a fraction rounded down, or 0 if it is below 0.
func (f fraction) down() int { return max(0, f.over) / f.under }

// up returns a fraction rounded up, or 0 if it is below 0.
func (f fraction) up() int { return (max(0, f.over) + f.under - 1) / f.under }

// keeper returns a function that is handed fractions, one after the other, and returns the one of them that is better than the others.
func keeper(better func(f, kept fraction) bool) func(f fraction) fraction {
	var kept fraction
	return func(f fraction) fraction {
		if kept == (fraction{}) || better(f, kept) {
			kept = f
		}
		return kept
	}
}

// ends are the least and the greatest one of some numbers.
type ends struct{ least, greatest fraction }

// possible reports whether there are any numbers between the ends.
func (x ends) possible() bool { return !x.greatest.below(x.least) }

// rounded returns the ends as whole numbers, so that all that is between them, and not below 0, is within.
func (x ends) rounded() api.Span { return api.Span{Lo: x.least.down(), Hi: x.greatest.up()} }

// ratesOf returns the rates of a test, in milligrams an hour.
func ratesOf(t api.HrTest) ends {
	var x ends
	greatest, least := keeper(fraction.above), keeper(fraction.below)
	// All marks can be explained together just if each two of them can: so each rate is bounded by two marks.
	for a, b := range pairs(t.Marks) {
		lost, hours := a.Weight-b.Weight, b.Minute-a.Minute
		x.least = greatest(fraction{perHour * (lost - 2*t.Error), hours})
		x.greatest = least(fraction{perHour * (lost + 2*t.Error), hours})
	}
	return x
}

// pairs yields each two marks, the one before first.
func pairs(marks []api.HrMark) iter.Seq2[api.HrMark, api.HrMark] {
	return func(yield func(a, b api.HrMark) bool) {
		for at, b := range marks {
			for _, a := range marks[:at] {
				if !yield(a, b) {
					return
				}
			}
		}
	}
}

// without returns a test without one of its marks.
func without(t api.HrTest, at int) api.HrTest {
	t.Marks = slices.Concat(t.Marks[:at], t.Marks[at+1:])
	return t
}
