package wick

import (
	"iter"
	"slices"
	"sort"

	"stearin/api"
)

// view is a shop that is looked at, and a candle.
type view struct {
	api.WkShop
	candle api.WkCandle
}

// wax returns the wax of the candle.
func (v view) wax() api.WkWax { return v.Waxes[v.candle.Wax] }

// ends returns the truths at the ends of the candle with a wick. As all that grows makes the candle burn more, and just Cold narrows the pool, Rate, Flame and Pool are all least in the weak one, and all greatest in the strong one.
func (v view) ends(wick int) (weak, strong api.WkTruth) {
	pull, wax, c := v.Wicks[wick].Pull, v.wax(), v.candle
	weak = api.WkTruth{Pull: pull.Lo, Flow: wax.Flow.Lo, Rise: wax.Rise.Lo, Spread: wax.Spread.Lo, Draught: -c.Draught, Cold: c.Cold.Hi}
	strong = api.WkTruth{Pull: pull.Hi, Flow: wax.Flow.Hi, Rise: wax.Rise.Hi, Spread: wax.Spread.Hi, Draught: c.Draught, Cold: c.Cold.Lo}
	return weak, strong
}

// isTruth reports whether a truth is one of the candle with a wick: it is so just if it stays where it is when each of its numbers is brought between those at the ends.
func (v view) isTruth(wick int, t api.WkTruth) bool {
	weak, strong := v.ends(wick)
	return t == api.WkTruth{
		Pull:    between(weak.Pull, strong.Pull, t.Pull),
		Flow:    between(weak.Flow, strong.Flow, t.Flow),
		Rise:    between(weak.Rise, strong.Rise, t.Rise),
		Spread:  between(weak.Spread, strong.Spread, t.Spread),
		Draught: between(weak.Draught, strong.Draught, t.Draught),
		Cold:    between(strong.Cold, weak.Cold, t.Cold),
	}
}

// between returns the number from lo to hi that is nearest to n.
func between(lo, hi, n int) int { return max(lo, min(hi, n)) }

// factors are what the wick draws, how the wax flows, and what the draught makes of it.
type factors [3]int

// times returns the product of the factors and another number.
func (f factors) times(n int) int {
	for _, x := range f {
		n *= x
	}
	return n
}

// burn returns how the candle burns in a truth.
func (v view) burn(t api.WkTruth) api.WkBurn {
	product := factors{t.Pull, t.Flow, 100 + t.Draught}.times
	return api.WkBurn{
		Rate:  product(100),
		Flame: product(t.Rise),
		Pool:  product(t.Spread) - t.Cold*v.wax().Chill*100000,
	}
}

// burns returns how the candle with a wick burns, at least and at most.
func (v view) burns(wick int) (least, most api.WkBurn) {
	weak, strong := v.ends(wick)
	return v.burn(weak), v.burn(strong)
}

// fault is something that can be wrong: its code, and whether it is so with a candle of a diameter that burns like this.
type fault struct {
	code int
	isSo func(b api.WkBurn, diameter int) bool
}

// smokes, goesOut, tunnels and runs return all that can be wrong.

func (v view) smokes() fault {
	return fault{api.WkSmokes, func(b api.WkBurn, _ int) bool { return b.Flame > v.Flame.Hi*api.WkScale }}
}

func (v view) goesOut() fault {
	return fault{api.WkGoesOut, func(b api.WkBurn, _ int) bool { return b.Flame < v.Flame.Lo*api.WkScale }}
}

func (v view) tunnels() fault {
	return fault{api.WkTunnels, func(b api.WkBurn, diameter int) bool { return b.Pool < width(v.Pool.Lo, diameter) }}
}

func (v view) runs() fault {
	return fault{api.WkRuns, func(b api.WkBurn, diameter int) bool { return b.Pool > width(v.Pool.Hi, diameter) }}
}

// width returns so many parts of 1000 of a diameter, times WkScale.
func width(parts, diameter int) int { return parts * diameter * (api.WkScale / api.All) }

// can reports whether a fault is so in some truth of a candle with a wick and of a diameter. A fault is a number beyond a bound: if it is so in any truth, then in one of those at the ends.
func (v view) can(f fault, wick, diameter int) bool {
	least, most := v.burns(wick)
	return f.isSo(least, diameter) || f.isSo(most, diameter)
}

// found returns the faults that are so in some truth of the candle with a wick, in the order of their codes.
func (v view) found(wick int) []fault {
	list := []fault{v.smokes(), v.goesOut(), v.tunnels(), v.runs()}
	return slices.DeleteFunc(list, func(f fault) bool { return !v.can(f, wick, v.candle.Diameter) })
}

// suiting yields the wicks that suit the candle, ascending.
func (v view) suiting() iter.Seq[int] {
	return func(yield func(int) bool) {
		for i := range v.Wicks {
			if len(v.found(i)) == 0 && !yield(i) {
				return
			}
		}
	}
}

// sizes returns the diameters with which a wick suits the candle, an empty range if there are none.
func (v view) sizes(wick int) api.Span {
	if v.can(v.smokes(), wick, v.candle.Diameter) || v.can(v.goesOut(), wick, v.candle.Diameter) {
		return api.Span{Lo: 1, Hi: 0}
	}
	// What does not run over does not do so with a wider candle, and what tunnels does so with a wider one, too.
	return api.Span{
		Lo: first(func(diameter int) bool { return !v.can(v.runs(), wick, diameter) }),
		Hi: first(func(diameter int) bool { return v.can(v.tunnels(), wick, diameter) }) - 1,
	}
}

// first returns the least diameter for which something holds that holds for all wider ones, too; it is above MaxWkDiameter if there is none.
func first(holds func(diameter int) bool) int {
	return 1 + sort.Search(api.MaxWkDiameter, func(i int) bool { return holds(i + 1) })
}
