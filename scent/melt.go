package scent

import (
	"slices"

	"stearin/api"
)

// milligram is a milligram, in micrograms.
const milligram = 1000

// view is a shop that is looked at, and its batches.
type view struct {
	api.ScShop
	melts []melt
}

// melt is a batch that is looked at: how many micrograms of each thing it can have, what these come from, and its weight.
type melt struct {
	api.ScBatch
	ranges
	sources []ranges
	weight  int
}

// look returns a shop and its batches to look at, if they have no error.
func look(s api.ScShop, l []api.ScBatch) (view, api.Errno) {
	if e := givenError(s, l); e != api.OK {
		return view{}, e
	}
	v := view{ScShop: s}
	next := v.maker()
	for _, b := range l {
		v.melts = append(v.melts, next(b))
	}
	return v, api.OK
}

// maker returns a function that makes one batch after the other. It keeps of how many parts those before are, as these can come back.
func (v view) maker() func(b api.ScBatch) melt {
	var lots, before []ranges
	for _, lot := range v.Lots {
		lots = append(lots, rangesOf(lot.Parts))
	}
	return func(b api.ScBatch) melt {
		sources := slices.Concat(lots, before[:len(b.Back)], []ranges{rangesOf(b.Added)})
		m := melt{ScBatch: b, sources: sources, weight: weight(b)}
		bring(b, sources, m.add)
		before = append(before, m.parts())
		return m
	}
}

// bring hands what each source of a batch has to a function that adds it so many times: by its grams, and what is added by its milligrams.
func bring(b api.ScBatch, sources []ranges, add func(times int, source ranges)) {
	for i, times := range slices.Concat(b.Grams, b.Back, []int{milligram}) {
		add(times, sources[i])
	}
}

// listsOf returns all lists of a truth, in the order of the sources of a batch.
func listsOf(t api.ScTruth) [][]int { return slices.Concat(t.Lots, t.Back, [][]int{t.Added}) }

// sourcesOf returns what each source of a batch has in a truth.
func sourcesOf(t api.ScTruth) []ranges {
	var sources []ranges
	for _, list := range listsOf(t) {
		sources = append(sources, exactly(list))
	}
	return sources
}

// parts returns how many parts of each thing the batch has when it comes back.
func (m melt) parts() (parts ranges) {
	for thing, r := range m.ranges {
		parts[thing] = api.Span{
			Lo: min(floor(r.Lo, m.weight), api.MaxScParts),
			Hi: min(ceil(r.Hi, m.weight), api.MaxScParts),
		}
	}
	return parts
}

// weight returns what a batch weighs.
func weight(b api.ScBatch) int {
	all := 0
	for _, grams := range slices.Concat(b.Grams, b.Back) {
		all += grams
	}
	return all
}

// left returns what is left of each batch, below 0 if more was taken of it than it weighs.
func left(l []api.ScBatch) []int {
	var list []int
	for _, b := range l {
		for before, grams := range b.Back {
			list[before] -= grams
		}
		list = append(list, weight(b))
	}
	return list
}
