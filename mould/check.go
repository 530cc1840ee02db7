package mould

import (
	"cmp"
	"slices"

	"stearin/api"
)

// Check returns the error of a mould.
func Check(m api.MdMould) api.Errno {
	return cmp.Or(
		rangeError(1, api.MaxMdRings, m.Rings),
		rangeError(1, api.MaxMdGive, m.Give),
		rangeError(0, api.MaxWarm, m.Pour.Lo, m.Pour.Hi, m.Wall.Lo, m.Wall.Hi, m.Set),
		rangeError(0, api.MaxMdShrink, m.Shrink),
		rangeError(0, m.Rings, m.Skin),
		rangeError(1, api.MaxMdFill, m.Fill),
		rangeError(1, api.MaxMdGap, m.Gap),
		rangeError(0, api.MaxMdFill, m.Deep),
		orderError(m.Pour, m.Wall),
	)
}

// truthError returns the error of a truth of a mould.
func truthError(m api.MdMould, t api.MdTruth) api.Errno {
	if len(t.Pour) != m.Rings || len(t.Wall) > api.MaxMdMinutes {
		return api.ErrLong
	}
	return cmp.Or(rangeError(m.Pour.Lo, m.Pour.Hi, t.Pour...), rangeError(m.Wall.Lo, m.Wall.Hi, t.Wall...))
}

// planError returns the error of a plan for a mould.
func planError(m api.MdMould, plan []int) api.Errno {
	if len(plan) > api.MaxMdPoured {
		return api.ErrLong
	}
	for i, minute := range plan {
		if e := minuteError(minute); e != api.OK {
			return e
		}
		if i > 0 && minute-plan[i-1] < m.Gap {
			return api.ErrArg
		}
	}
	return api.OK
}

// minuteError returns the error of a minute.
func minuteError(minute int) api.Errno { return rangeError(0, api.MaxMdMinutes, minute) }

// rangeError returns the error of numbers that have to be from least to most.
func rangeError(least, most int, numbers ...int) api.Errno {
	for _, n := range numbers {
		if n < least || n > most {
			return api.ErrRange
		}
	}
	return api.OK
}

// orderError returns the error of ranges in which something has to be.
func orderError(spans ...api.Span) api.Errno {
	if slices.ContainsFunc(spans, func(s api.Span) bool { return s.Lo > s.Hi }) {
		return api.ErrArg
	}
	return api.OK
}
