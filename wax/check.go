package wax

import (
	"slices"

	"stearin/api"
)

// Name reports whether a string is a name.
func Name(s string) bool {
	if len(s) > api.MaxName {
		return false
	}
	// What is before the first byte counts as a hyphen: so no hyphen begins a name, and the empty string ends like one with a hyphen.
	before := '-'
	for _, r := range s {
		letter := 'a' <= r && r <= 'z'
		if !letter && (r != '-' || before == '-') {
			return false
		}
		before = r
	}
	return before != '-'
}

// Check returns the part, the index in it and the error of a table.
func Check(t api.WxTable) (part, at int, e api.Errno) {
	if e := checkCounts(t); e != api.OK {
		return 1, 0, e
	}
	for i := range t.Props {
		if e := checkProp(t.Props, i); e != api.OK {
			return 2, i, e
		}
	}
	for i := range t.Kinds {
		if e := checkKind(t.Kinds, i, len(t.Props)); e != api.OK {
			return 3, i, e
		}
	}
	return 0, 0, api.OK
}

// checkCounts returns the error of a table as a whole.
func checkCounts(t api.WxTable) api.Errno {
	switch {
	case !within(len(t.Props), 1, api.MaxWxProps), !within(len(t.Kinds), 1, api.MaxWxKinds):
		return api.ErrLong
	case !within(t.Purity, 1, api.All):
		return api.ErrRange
	}
	return api.OK
}

// checkProp returns the error of one of the properties.
func checkProp(props []api.WxProp, at int) api.Errno {
	if e := checkName(props, at, func(p api.WxProp) string { return p.Name }); e != api.OK {
		return e
	}
	if !within(props[at].Error, 0, api.MaxWxError) {
		return api.ErrRange
	}
	return api.OK
}

// checkKind returns the error of one of the kinds.
func checkKind(kinds []api.WxKind, at, props int) api.Errno {
	if e := checkName(kinds, at, func(k api.WxKind) string { return k.Name }); e != api.OK {
		return e
	}
	ranges := kinds[at].Props
	switch {
	case len(ranges) != props:
		return api.ErrLong
	case slices.ContainsFunc(ranges, beyond):
		return api.ErrRange
	case slices.ContainsFunc(ranges, empty):
		return api.ErrArg
	}
	return api.OK
}

// checkName returns the error of the name of an element, which none before it may have.
func checkName[T any](list []T, at int, name func(T) string) api.Errno {
	own := name(list[at])
	switch {
	case !Name(own):
		return api.ErrForm
	case find(list[:at], own, name) >= 0:
		return api.ErrTwice
	}
	return api.OK
}

// checkReadings returns the error of readings.
func checkReadings(readings []int, props int) api.Errno {
	if len(readings) != props {
		return api.ErrLong
	}
	for _, n := range readings {
		if n != api.WxUnknown && !within(n, 0, api.MaxWxValue) {
			return api.ErrRange
		}
	}
	return api.OK
}

// find returns where in a list a name is, or -1.
func find[T any](list []T, want string, name func(T) string) int {
	return slices.IndexFunc(list, func(x T) bool { return name(x) == want })
}

// beyond reports whether a number of a range is no value.
func beyond(s api.Span) bool {
	return !within(s.Lo, 0, api.MaxWxValue) || !within(s.Hi, 0, api.MaxWxValue)
}

// empty reports whether nothing is in a range.
func empty(s api.Span) bool { return s.Lo > s.Hi }

// within reports whether a number is from lo to hi.
func within(n, lo, hi int) bool { return lo <= n && n <= hi }
