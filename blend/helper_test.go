package blend_test

import (
	"math"
	"math/rand"
	"slices"

	"stearin/api"
)

// span is the range from one number to another one.
func span(lo, hi int) api.Span { return api.Span{Lo: lo, Hi: hi} }

// example are the waxes L of the chapter.
func example() []api.BdWax {
	return []api.BdWax{
		{Name: "bees", Price: 1200, Melt: span(620, 640), Shrink: span(90, 100)},
		{Name: "paraffin", Price: 200, Melt: span(540, 580), Shrink: span(110, 150)},
		{Name: "hard", Price: 400, Melt: span(690, 700), Shrink: span(60, 70), Curve: points(0, 0, 2, 20, 4, 30)},
	}
}

// exampleWish is the wish W of the chapter.
func exampleWish() api.BdWish {
	return api.BdWish{Parts: []api.Span{span(4, 5), span(0, 20), span(0, 1)}, Melt: span(560, 620), Shrink: span(0, 140)}
}

// points are the points of a curve, of the Parts and the Add of each.
func points(numbers ...int) []api.BdPoint {
	var curve []api.BdPoint
	for i := 0; i < len(numbers); i += 2 {
		curve = append(curve, api.BdPoint{Parts: numbers[i], Add: numbers[i+1]})
	}
	return curve
}

// open is a wish for n waxes that bounds nothing; many blends melt and shrink within it.
func open(n int) api.BdWish {
	return api.BdWish{Parts: slices.Repeat([]api.Span{span(0, 20)}, n), Melt: span(0, 2000), Shrink: span(0, 1000)}
}

// outside are numbers of which none is from least to most.
func outside(least, most int) []int {
	return []int{least - 1, most + 1, -1000000, 1000000, math.MinInt, math.MaxInt, math.MinInt32, math.MaxInt32}
}

// clone is a copy of waxes that shares no memory with them.
func clone(l []api.BdWax) []api.BdWax {
	c := slices.Clone(l)
	for i := range c {
		c[i].Curve = slices.Clone(c[i].Curve)
	}
	return c
}

// cloneWish is a copy of a wish that shares no memory with it.
func cloneWish(w api.BdWish) api.BdWish {
	w.Parts = slices.Clone(w.Parts)
	return w
}

// raised is what n parts of a curve raise: the greatest number that is not above the line.
func raised(curve []api.BdPoint, n int) int {
	if len(curve) == 0 {
		return 0
	}
	if n <= curve[0].Parts {
		return curve[0].Add
	}
	for i, to := range curve[1:] {
		from := curve[i]
		if n > to.Parts {
			continue
		}
		y := max(from.Add, to.Add)
		for (y-from.Add)*(to.Parts-from.Parts) > (to.Add-from.Add)*(n-from.Parts) {
			y--
		}
		return y
	}
	return curve[len(curve)-1].Add
}

// made is 20 times what a blend of lots melts and shrinks at.
func made(l []api.BdWax, recipe []int, lots []api.BdLot) (melt, shrink int) {
	for i, x := range l {
		melt += recipe[i]*lots[i].Melt + 20*raised(x.Curve, recipe[i])
		shrink += recipe[i] * lots[i].Shrink
	}
	return melt, shrink
}

// softLots are the lots that melt and shrink least, hardLots those that do most.
func softLots(l []api.BdWax) (lots []api.BdLot) {
	for _, x := range l {
		lots = append(lots, api.BdLot{Melt: x.Melt.Lo, Shrink: x.Shrink.Lo})
	}
	return lots
}

func hardLots(l []api.BdWax) (lots []api.BdLot) {
	for _, x := range l {
		lots = append(lots, api.BdLot{Melt: x.Melt.Hi, Shrink: x.Shrink.Hi})
	}
	return lots
}

// priceOf is the price of a recipe.
func priceOf(l []api.BdWax, recipe []int) int {
	price := 0
	for i, x := range l {
		price += recipe[i] * x.Price
	}
	return price
}

// reason is why a recipe does not fit a wish.
func reason(l []api.BdWax, w api.BdWish, recipe []int) int {
	for i, s := range w.Parts {
		if recipe[i] < s.Lo || recipe[i] > s.Hi {
			return api.BdParts
		}
	}
	leastMelt, leastShrink := made(l, recipe, softLots(l))
	mostMelt, mostShrink := made(l, recipe, hardLots(l))
	switch {
	case leastMelt < 20*w.Melt.Lo:
		return api.BdSoft
	case mostMelt > 20*w.Melt.Hi:
		return api.BdHard
	case leastShrink < 20*w.Shrink.Lo || mostShrink > 20*w.Shrink.Hi:
		return api.BdShrinks
	}
	return api.BdFits
}

// all are all recipes of n waxes, those with fewer parts of the first wax first: the numbers with n digits from 0 to 20 that are 20 together, ascending.
func all(n int) [][]int {
	var list [][]int
	recipe := make([]int, n)
	for {
		left := 20
		for _, parts := range recipe[:n-1] {
			left -= parts
		}
		if left >= 0 {
			recipe[n-1] = left
			list = append(list, slices.Clone(recipe))
		}
		at := n - 2
		for at >= 0 && recipe[at] == 20 {
			recipe[at] = 0
			at--
		}
		if at < 0 {
			return list
		}
		recipe[at]++
	}
}

// fitted are all recipes that fit a wish, in their order.
func fitted(l []api.BdWax, w api.BdWish, recipes [][]int) (list [][]int) {
	for _, recipe := range recipes {
		if reason(l, w, recipe) == api.BdFits {
			list = append(list, recipe)
		}
	}
	return list
}

// anySpan is a random range within 0 to most, often a narrow one.
func anySpan(r *rand.Rand, most int) api.Span {
	lo := r.Intn(most + 1)
	switch r.Intn(3) {
	case 0:
		return span(lo, lo)
	case 1:
		return span(lo, min(most, lo+r.Intn(most/10+2)))
	}
	return span(lo, lo+r.Intn(most-lo+1))
}

// within is a random number of a range, often one of its ends.
func within(r *rand.Rand, s api.Span) int {
	switch r.Intn(4) {
	case 0:
		return s.Lo
	case 1:
		return s.Hi
	}
	return s.Lo + r.Intn(s.Hi-s.Lo+1)
}

// anyCurve is a random curve.
func anyCurve(r *rand.Rand) []api.BdPoint {
	var curve []api.BdPoint
	parts := r.Perm(21)[:r.Intn(7)]
	slices.Sort(parts)
	most := []int{1, 30, 300}[r.Intn(3)]
	for _, n := range parts {
		curve = append(curve, api.BdPoint{Parts: n, Add: r.Intn(2*most+1) - most})
	}
	return curve
}

// anyWaxes are random waxes without an error; their prices are often the same.
func anyWaxes(r *rand.Rand, n int) []api.BdWax {
	var l []api.BdWax
	dear := []int{1, 5, 1000, api.MaxBdPrice}[r.Intn(4)]
	for i := range n {
		x := api.BdWax{Name: "wax-" + string(rune('a'+i)), Price: r.Intn(dear + 1), Melt: anySpan(r, 2000), Shrink: anySpan(r, 1000)}
		if r.Intn(2) == 0 {
			// Like waxes that there are: within a degree.
			x.Melt, x.Shrink = anySpan(r, 300), anySpan(r, 200)
			x.Melt.Lo += 500
			x.Melt.Hi += 500
		}
		if r.Intn(3) > 0 {
			x.Curve = anyCurve(r)
		}
		l = append(l, x)
	}
	return l
}

// anyRecipe is a random recipe.
func anyRecipe(r *rand.Rand, n int) []int {
	recipe := make([]int, n)
	for left := 20; left > 0; {
		parts := 1 + r.Intn(left)
		recipe[r.Intn(n)] += parts
		left -= parts
	}
	return recipe
}

// anyLots are random lots.
func anyLots(r *rand.Rand, l []api.BdWax) []api.BdLot {
	var lots []api.BdLot
	for _, x := range l {
		lots = append(lots, api.BdLot{Melt: within(r, x.Melt), Shrink: within(r, x.Shrink)})
	}
	return lots
}

// around is a range from 0 to most, that contains the range of a blend just so, or with some more, or by chance misses it by one.
func around(r *rand.Rand, lo, hi, most int) api.Span {
	more := []int{0, 0, 1, most / 20, most / 4}[r.Intn(5)]
	least := int(math.Floor(float64(lo)/20)) - more
	greatest := int(math.Ceil(float64(hi)/20)) + more
	switch r.Intn(12) {
	case 0:
		least++
	case 1:
		greatest--
	}
	least = min(max(least, 0), most)
	return span(least, max(least, min(greatest, most)))
}

// anyWish is a random wish, which a recipe mostly fits.
func anyWish(r *rand.Rand, l []api.BdWax, recipe []int) api.BdWish {
	leastMelt, leastShrink := made(l, recipe, softLots(l))
	mostMelt, mostShrink := made(l, recipe, hardLots(l))
	w := api.BdWish{Melt: around(r, leastMelt, mostMelt, 2000), Shrink: around(r, leastShrink, mostShrink, 1000)}
	for _, n := range recipe {
		s := span(max(0, n-r.Intn(20)), min(20, n+r.Intn(20)))
		if r.Intn(15) == 0 {
			s = anySpan(r, 20)
		}
		w.Parts = append(w.Parts, s)
	}
	return w
}

// someCase is waxes, a wish and a recipe.
type someCase struct {
	l      []api.BdWax
	w      api.BdWish
	recipe []int
	all    [][]int
}

// eachCase calls a test with random waxes, and a wish that the recipe mostly fits.
func eachCase(seed int64, times int, test func(r *rand.Rand, c someCase)) {
	r := rand.New(rand.NewSource(seed))
	var lists [6][][]int
	for range times {
		n := 1 + r.Intn(5)
		if lists[n] == nil {
			lists[n] = all(n)
		}
		l, recipe := anyWaxes(r, n), anyRecipe(r, n)
		test(r, someCase{l, anyWish(r, l, recipe), recipe, lists[n]})
	}
}
