package store

import (
	"slices"

	"stearin/api"
)

// nowhere is the store before the first day.
const nowhere = -1

// view is a season that is looked at.
type view struct{ api.SoSeason }

// daysOf returns how warm candles can be on each day of a way, or the error of the season or of the way.
func daysOf(s api.SoSeason, way []int) ([]api.Span, api.Errno) {
	if e := wayError(s, way); e != api.OK {
		return nil, e
	}
	return view{s}.days(way), api.OK
}

// days returns how warm candles can be on each day of a way.
func (v view) days(way []int) []api.Span {
	var days []api.Span
	for day, store := range way {
		days = append(days, v.Stores[store].Warm[day])
	}
	return days
}

// cost returns what a way costs.
func (v view) cost(way []int) int {
	cents, before := 0, nowhere
	for _, store := range way {
		cents += v.price(before, store)
		before = store
	}
	return cents
}

// price returns what a day in a store costs, after a day in the one before.
func (v view) price(before, store int) int {
	cents := v.Stores[store].Rent
	if before != nowhere && before != store {
		cents += v.Move
	}
	return cents
}

// evening is where a stock is, and how near to its troubles, when so many days have passed.
type evening struct {
	passed, store int
	stock
}

// rest is a way for all days from some day on, if there is a sound one, and what it costs.
type rest struct {
	way   []int
	cents int
	sound bool
}

// behind returns the rest of a way with one more day before it, in a store for a price.
func (r rest) behind(store, price int) rest {
	if !r.sound {
		return r
	}
	return rest{slices.Concat([]int{store}, r.way), price + r.cents, true}
}

// cheaper returns the cheaper one of two rests, or the first one if none is.
func cheaper(a, b rest) rest {
	if !a.sound || b.sound && b.cents < a.cents {
		return b
	}
	return a
}

// best returns the best way for all days.
func (v view) best() rest {
	known := map[evening]rest{}
	var from func(now evening) rest
	from = func(now evening) rest {
		if now.passed == len(v.Stores[0].Warm) {
			return rest{sound: true}
		}
		if r, ok := known[now]; ok {
			return r
		}
		var best rest
		for store := range v.Stores {
			if later, sound := v.stay(now, store); sound {
				best = cheaper(best, from(later).behind(store, v.price(now.store, store)))
			}
		}
		known[now] = best
		return best
	}
	return from(evening{store: nowhere, stock: stockOf(v.Candle)})
}

// stay returns the evening after a day in a store, and whether candles are sound then in each truth.
func (v view) stay(now evening, store int) (later evening, sound bool) {
	x, sound := now.after(v.Stores[store].Warm[now.passed])
	return evening{now.passed + 1, store, x}, sound
}
