package blend

import (
	"sort"

	"stearin/api"
)

// portion is a wax that is looked at in a blend, and how many parts of it there are.
type portion struct {
	*api.BdWax
	parts int
}

// The methods of a portion are what it adds to a figure of the blend. All but what it costs are times BdWhole: a wax raises the whole blend, and melts and shrinks just by its parts of it.

func (p portion) softest() int     { return p.parts*p.Melt.Lo + api.BdWhole*p.raises() }
func (p portion) hardest() int     { return p.parts*p.Melt.Hi + api.BdWhole*p.raises() }
func (p portion) shrinksLess() int { return p.parts * p.Shrink.Lo }
func (p portion) shrinksMore() int { return p.parts * p.Shrink.Hi }
func (p portion) costs() int       { return p.parts * p.Price }

// raises returns by how much the portion raises the melting point of the blend.
func (p portion) raises() int {
	next := sort.Search(len(p.Curve), p.isUpTo)
	switch {
	case len(p.Curve) == 0:
		return 0
	case next == 0:
		return p.Curve[0].Add
	case next == len(p.Curve):
		return p.Curve[next-1].Add
	}
	from, to := p.Curve[next-1], p.Curve[next]
	return from.Add + floor((to.Add-from.Add)*(p.parts-from.Parts), to.Parts-from.Parts)
}

// isUpTo reports whether the portion has no more parts than a point of its curve.
func (p portion) isUpTo(at int) bool { return p.parts <= p.Curve[at].Parts }

// mix is a blend: a portion of each wax, also of those of which it has no parts, as these raise it too, if their curve says so.
type mix []portion

// mixOf returns the blend of a recipe.
func mixOf(l []api.BdWax, recipe []int) mix {
	m := make(mix, 0, len(l))
	for i := range l {
		m = append(m, portion{&l[i], recipe[i]})
	}
	return m
}

// recipe returns the parts of all portions.
func (m mix) recipe() []int {
	var parts []int
	for _, p := range m {
		parts = append(parts, p.parts)
	}
	return parts
}

// price returns what the blend costs.
func (m mix) price() int { return sum(m, portion.costs) }

// Which figure is which.
const (
	softest = iota
	hardest
	leastShrinkage
	mostShrinkage
	cost
	manyFigures
)

// figures are what is looked at in a blend.
type figures [manyFigures]int

// figures returns what is looked at in this blend.
func (m mix) figures() figures {
	var f figures
	for i, adds := range [manyFigures]func(portion) int{
		softest:        portion.softest,
		hardest:        portion.hardest,
		leastShrinkage: portion.shrinksLess,
		mostShrinkage:  portion.shrinksMore,
		cost:           portion.costs,
	} {
		f[i] = sum(m, adds)
	}
	return f
}

// melt returns 20 times what the blend melts at, at least and at most.
func (f figures) melt() api.Span { return api.Span{Lo: f[softest], Hi: f[hardest]} }

// shrink returns 20 times what the blend shrinks by, at least and at most.
func (f figures) shrink() api.Span { return api.Span{Lo: f[leastShrinkage], Hi: f[mostShrinkage]} }

// fault returns why the blend does not fit a wish, or BdFits.
func (m mix) fault(w api.BdWish) int {
	for i, p := range m {
		if !within(w.Parts[i].Lo, w.Parts[i].Hi, p.parts) {
			return api.BdParts
		}
	}
	f := m.figures()
	switch {
	case f[softest] < api.BdWhole*w.Melt.Lo:
		return api.BdSoft
	case f[hardest] > api.BdWhole*w.Melt.Hi:
		return api.BdHard
	case f[leastShrinkage] < api.BdWhole*w.Shrink.Lo, f[mostShrinkage] > api.BdWhole*w.Shrink.Hi:
		return api.BdShrinks
	}
	return api.BdFits
}

// sum returns the numbers of all elements of a list, together.
func sum[T any](list []T, number func(T) int) int {
	all := 0
	for _, x := range list {
		all += number(x)
	}
	return all
}

// floor returns a divided by b, which is positive, rounded down.
func floor(a, b int) int {
	if a%b < 0 {
		return a/b - 1
	}
	return a / b
}
