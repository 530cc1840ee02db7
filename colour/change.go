package colour

import "stearin/api"

// milli is the milligrams of a gram.
const milli = 1000

// view is a shop that is looked at.
type view struct{ api.ClShop }

// milligrams returns how many milligrams of a colour can be in a machine after so many rinses.
func (v view) milligrams(colour, rinses int) api.Span {
	stay := v.Colours[colour].Stay
	least, below := rinsed(milli*stay.Lo, v.Keep.Lo, rinses)
	most, above := rinsed(milli*stay.Hi, v.Keep.Hi, rinses)
	return api.Span{Lo: least / below, Hi: (most + above - 1) / above}
}

// canShow reports whether a colour can show in a batch that comes next, after so many rinses.
func (v view) canShow(before int, b api.ClBatch, rinses int) bool {
	if b.Colour == before {
		return false
	}
	c := v.Colours[before]
	// If the most of it does not show, nothing less does.
	most, of := rinsed(c.Stay.Hi, v.Keep.Hi, rinses)
	return most*api.All > b.Grams*c.Shows[b.Colour]*of
}

// rinsed returns what is left of some wax after so many rinses, each of which leaves so many parts of 1000: a numerator, and of what.
func rinsed(much, keep, rinses int) (left, of int) {
	left, of = much, 1
	for range rinses {
		left, of = left*keep, of*api.All
	}
	return left, of
}

// change is that from a colour in a machine to a batch.
type change struct{ before, batch int }

// work is batches that are waiting, and how many rinses each possible change to one of them needs.
type work struct {
	view
	batches []api.ClBatch
	needed  map[change]int
}

// workOf returns the work with some batches.
func workOf(s api.ClShop, batches ...api.ClBatch) work {
	w := work{view{s}, batches, map[change]int{}}
	for before := range s.Colours {
	changes:
		for at, b := range batches {
			rinses := 0
			for w.canShow(before, b, rinses) {
				if rinses == api.MaxClRinses {
					continue changes
				}
				rinses++
			}
			w.needed[change{before, at}] = rinses
		}
	}
	return w
}

// changes returns the changes of a machine with an order of batches.
func (w work) changes(start int, order []int) []change {
	var list []change
	before := start
	for _, batch := range order {
		list = append(list, change{before, batch})
		before = w.batches[batch].Colour
	}
	return list
}

// price returns how many grams a change loses, and whether it is possible.
func (w work) price(c change) (grams int, possible bool) {
	rinses, possible := w.needed[c]
	return rinses * w.Rinse, possible
}

// loss returns how many grams an order loses, and whether it is possible.
func (w work) loss(start int, order []int) (grams int, possible bool) {
	for _, c := range w.changes(start, order) {
		more, possible := w.price(c)
		if !possible {
			return 0, false
		}
		grams += more
	}
	return grams, true
}
