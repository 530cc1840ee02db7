package store

import (
	"slices"

	"stearin/api"
)

// never is the day of a trouble that does not come.
const never = -1

// stock is candles, and how near to each of both troubles they can be.
type stock struct {
	bends  bending
	blooms blooming
}

// stockOf returns a stock of candles before the first day.
func stockOf(c api.SoCandle) stock {
	return stock{bending{SoCandle: c}, blooming{SoCandle: c}}
}

// troubles returns both troubles of a stock.
func (x *stock) troubles() []trouble { return []trouble{&x.bends, &x.blooms} }

// after returns a stock a day later, and whether it is sound then in each truth.
func (x stock) after(day api.Span) (later stock, sound bool) {
	sound = true
	for _, t := range x.troubles() {
		t.pass(day)
		sound = sound && !happens(t)
	}
	return x, sound
}

// fate returns on which one of some days each trouble can happen first.
func fate(c api.SoCandle, days []api.Span) api.SoFate {
	var f api.SoFate
	x := stockOf(c)
	for _, t := range x.troubles() {
		day := firstDay(t, days)
		switch t.(type) {
		case *bending:
			f.Bends = day
		case *blooming:
			f.Blooms = day
		}
	}
	return f
}

// firstDay returns the first one of some days on which a trouble can happen, or never.
func firstDay(t trouble, days []api.Span) int {
	for at, day := range days {
		t.pass(day)
		if happens(t) {
			return at
		}
	}
	return never
}

// risks returns how near to each trouble candles can come on some days.
func risks(c api.SoCandle, days []api.Span) (hot, jumps int) {
	x := stockOf(c)
	for _, t := range x.troubles() {
		near := nearest(t, days)
		switch t.(type) {
		case *bending:
			hot = near
		case *blooming:
			jumps = near
		}
	}
	return hot, jumps
}

// nearest returns how near to a trouble candles can come on some days.
func nearest(t trouble, days []api.Span) int {
	most := 0
	for _, day := range days {
		t.pass(day)
		most = max(most, t.near())
	}
	return most
}

// show returns the first truth of some days with the most jumps.
func show(c api.SoCandle, days []api.Span) []int {
	// The jumps from a day on are those until it, if the days go backwards.
	ahead := make([]tally, len(days))
	back := blooming{SoCandle: c}
	for at, day := range slices.Backward(days) {
		back.pass(day)
		ahead[at] = back.jumps
	}
	var list []int
	shown := blooming{SoCandle: c}
	for at, day := range days {
		best, most := 0, 0
		for warm := range warmths(day) {
			if jumps := shown.to(warm) + ahead[at][warm]; jumps > most {
				best, most = warm, jumps
			}
		}
		shown.pass(exactly(best))
		list = append(list, best)
	}
	return list
}
