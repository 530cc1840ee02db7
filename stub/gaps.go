package stub

import "stearin/api"

// nothing is a point behind all others, at which there is no wax any more: so much as it is less than another one, this weighs.
const nothing = api.MaxStSteps + 1

// gaps is by how many grams the weight at a point, the second index, can be less than that at another one, the first index, at most.
type gaps [nothing + 1][nothing + 1]int

// bound is by how many grams the weight at a point is less than that at another one at most.
type bound struct{ from, to, most int }

// anyGaps returns the gaps between weights of which nothing is known but that each is from 0 to MaxStGrams.
func anyGaps() gaps {
	var g gaps
	for from := range nothing {
		for to := range g[from] {
			if to != from {
				g[from][to] = api.MaxStGrams
			}
		}
	}
	return g
}

// tighten makes gaps less where bounds ask for it, and reports whether there still are such weights. Before and after it, no gap is more than any two over a point in between, together: so each one is reached.
func (g *gaps) tighten(bounds ...bound) bool {
	for _, b := range bounds {
		if b.most < -g[b.to][b.from] {
			return false
		}
	rows:
		for from := range g {
			over := g[from][b.from] + b.most
			// As each gap was reached before, one that does not become less with this bound itself becomes so with nothing behind it.
			if over >= g[from][b.to] {
				continue rows
			}
			for to, rest := range g[b.to] {
				g[from][to] = min(g[from][to], over+rest)
			}
		}
	}
	return true
}

// less returns by how much the weight at a point can be less than that at another one.
func (g *gaps) less(from, to int) api.Span { return api.Span{Lo: -g[to][from], Hi: g[from][to]} }

// weight returns what the wax at a point can weigh.
func (g *gaps) weight(point int) api.Span { return g.less(point, nothing) }
