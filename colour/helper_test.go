package colour_test

import (
	"iter"
	"math"
	"math/big"
	"math/rand"
	"slices"
	"strings"

	"stearin/api"
	"stearin/colour"
)

// The limits of this layer, as the chapter says them.
const (
	mostColours = 6
	mostBatches = 7
	mostStay    = 1000
	mostGrams   = 100000
	mostRinse   = 10000
	mostRinses  = 3
)

// The colours of the example.
const (
	white = 0
	red   = 1
	black = 2
)

// nowhere is where nothing shows.
const nowhere = -1

// tooMany is how many rinses a batch needs that cannot follow.
const tooMany = -1

// span is the range from one number to another one.
func span(lo, hi int) api.Span { return api.Span{Lo: lo, Hi: hi} }

// hue is a colour.
func hue(name string, lo, hi int, shows ...int) api.ClColour {
	return api.ClColour{Name: name, Stay: span(lo, hi), Shows: shows}
}

// shop is a shop.
func shop(lo, hi, rinse int, colours ...api.ClColour) api.ClShop {
	return api.ClShop{Colours: colours, Keep: span(lo, hi), Rinse: rinse}
}

// batch is a batch.
func batch(colour, grams int) api.ClBatch { return api.ClBatch{Colour: colour, Grams: grams} }

// batches are batches of these colours, which weigh the same.
func batches(grams int, colours ...int) []api.ClBatch {
	var list []api.ClBatch
	for _, c := range colours {
		list = append(list, batch(c, grams))
	}
	return list
}

// example is the shop S of the chapter.
func example() api.ClShop {
	return shop(100, 200, 50,
		hue("white", 10, 20, 1000, 1000, 1000),
		hue("red", 10, 20, 2, 1000, 50),
		hue("black", 20, 40, 1, 5, 1000),
	)
}

// exampleBatches are the batches L of the chapter.
func exampleBatches() []api.ClBatch { return batches(2000, black, white, red) }

// with is the shop S with a change.
func with(change func(s *api.ClShop)) api.ClShop {
	s := example()
	change(&s)
	return s
}

// full is a shop with as much as there can be.
func full() api.ClShop {
	s := shop(1000, 1000, mostRinse)
	for i := range mostColours {
		s.Colours = append(s.Colours, hue(strings.Repeat("z", 19)+string(rune('a'+i)), mostStay, mostStay, slices.Repeat([]int{1000}, mostColours)...))
	}
	return s
}

// pair is a shop with two colours, of which the first one stays as much as this, and shows in the second one from so many parts on.
func pair(stay, keep api.Span, shows int) api.ClShop {
	return shop(keep.Lo, keep.Hi, 10, hue("a", stay.Lo, stay.Hi, 1000, shows), hue("b", 0, 0, 1000, 1000))
}

// chain is a shop with these rinses, all of as many grams, that each colour needs after each other one (tooMany: it cannot follow it), if all batches weigh 1000 grams.
func chain(rinse int, needs ...[]int) api.ClShop {
	s := shop(100, 100, rinse)
	for i, row := range needs {
		// Of 1000 grams, and after a rinse of 100 of them, and so on, this much does not show.
		var shows []int
		for _, n := range row {
			shows = append(shows, []int{0, 1000, 100, 10, 1}[n+1])
		}
		s.Colours = append(s.Colours, hue(string(rune('a'+i)), 1000, 1000, shows...))
	}
	return s
}

// outside are numbers of which none is from least to most.
func outside(least, most int) []int {
	return []int{least - 1, most + 1, least - 1000000, most + 1000000, math.MinInt, math.MaxInt, math.MinInt32 - 1, math.MaxInt32}
}

// copyOf is a copy of a shop that shares nothing with it.
func copyOf(s api.ClShop) api.ClShop {
	s.Colours = slices.Clone(s.Colours)
	for i := range s.Colours {
		s.Colours[i].Shows = slices.Clone(s.Colours[i].Shows)
	}
	return s
}

// orders yields all orders of some batches, in their order.
func orders(of ...int) iter.Seq[[]int] {
	return func(yield func(order []int) bool) {
		var fill func(order, left []int) bool
		fill = func(order, left []int) bool {
			if len(left) == 0 {
				return yield(slices.Clone(order))
			}
			for i, at := range left {
				if !fill(append(slices.Clone(order), at), slices.Delete(slices.Clone(left), i, i+1)) {
					return false
				}
			}
			return true
		}
		fill(nil, of)
	}
}

// first are the first numbers from 0 on.
func first(many int) []int {
	var list []int
	for i := range many {
		list = append(list, i)
	}
	return list
}

// parts are so many parts of 1000.
func parts(n int) *big.Rat { return big.NewRat(int64(n), 1000) }

// product is a real number times others.
func product(x *big.Rat, others ...*big.Rat) *big.Rat {
	x = new(big.Rat).Set(x)
	for _, y := range others {
		x.Mul(x, y)
	}
	return x
}

// corners are all truths of what is in a machine in which each number is at an end of its range. What is in the machine is a product of them, none of which is below 0: so no truth has less or more than all of these.
func corners(s api.ClShop, colour, rinses int) []*big.Rat {
	var list []*big.Rat
	for _, stay := range []int{s.Colours[colour].Stay.Lo, s.Colours[colour].Stay.Hi} {
		list = append(list, big.NewRat(int64(stay), 1))
	}
	for range rinses {
		var next []*big.Rat
		for _, x := range list {
			next = append(next, product(x, parts(s.Keep.Lo)), product(x, parts(s.Keep.Hi)))
		}
		list = next
	}
	return list
}

// showsIn reports whether so many grams in a machine show in a batch, by the definition.
func showsIn(s api.ClShop, before int, b api.ClBatch, grams *big.Rat) bool {
	limit := product(big.NewRat(int64(b.Grams), 1), parts(s.Colours[before].Shows[b.Colour]))
	return before != b.Colour && grams.Cmp(limit) > 0
}

// canShow reports whether a colour shows in a batch in some truth.
func canShow(s api.ClShop, before int, b api.ClBatch, rinses int) bool {
	return slices.ContainsFunc(corners(s, before, rinses), func(grams *big.Rat) bool { return showsIn(s, before, b, grams) })
}

// needs is how many rinses a batch needs, by the definition.
func needs(s api.ClShop, before int, b api.ClBatch) int {
	for rinses := range mostRinses + 1 {
		if !canShow(s, before, b, rinses) {
			return rinses
		}
	}
	return tooMany
}

// down is a number rounded down.
func down(x *big.Rat) int { return int(new(big.Int).Div(x.Num(), x.Denom()).Int64()) }

// up is a number rounded up.
func up(x *big.Rat) int { return -down(new(big.Rat).Neg(x)) }

// milli is how many milligrams so many grams are.
func milli(grams *big.Rat) *big.Rat { return product(grams, big.NewRat(1000, 1)) }

// known is what all changes need, of which each one is told by the definition once.
type known struct {
	s     api.ClShop
	l     []api.ClBatch
	needs [][]int
}

// knownOf is what all changes of some batches need.
func knownOf(s api.ClShop, l []api.ClBatch) known {
	k := known{s: s, l: l}
	for before := range s.Colours {
		var row []int
		for _, b := range l {
			row = append(row, needs(s, before, b))
		}
		k.needs = append(k.needs, row)
	}
	return k
}

// rinses are those that the batches of an order need, and whether it is possible.
func (k known) rinses(start int, order []int) (list []int, possible bool) {
	possible = true
	for _, at := range order {
		list = append(list, k.needs[start][at])
		possible = possible && k.needs[start][at] != tooMany
		start = k.l[at].Colour
	}
	return list, possible
}

// loses is what an order loses, and whether it is possible.
func (k known) loses(start int, order []int) (grams int, possible bool) {
	list, possible := k.rinses(start, order)
	if !possible {
		return 0, false
	}
	for _, n := range list {
		grams += k.s.Rinse * n
	}
	return grams, true
}

// best is the best order of some of the batches, by all there are.
func (k known) best(start int, of []int) (best []int, lost int, exists bool) {
	for order := range orders(of...) {
		if grams, possible := k.loses(start, order); possible && (!exists || grams < lost) {
			best, lost, exists = order, grams, true
		}
	}
	return best, lost, exists
}

// two is the best sharing, by all there are.
func (k known) two(starts [2]int) (best [2][]int, lost int, exists bool) {
	for bits := range 1 << len(k.l) {
		var some [2][]int
		for at := range k.l {
			on := 1 - bits>>at&1
			some[on] = append(some[on], at)
		}
		a, x, ok := k.best(starts[0], some[0])
		b, y, fine := k.best(starts[1], some[1])
		if ok && fine && (!exists || x+y < lost) {
			best, lost, exists = [2][]int{a, b}, x+y, true
		}
	}
	return best, lost, exists
}

// put is an order with one more batch at a place.
func put(order []int, place, batch int) []int {
	return slices.Insert(slices.Clone(order), place, batch)
}

// within is a random number of a range, often one of its ends.
func within(r *rand.Rand, s api.Span) int {
	switch r.Intn(4) {
	case 0:
		return s.Lo
	case 1:
		return s.Hi
	}
	return s.Lo + r.Intn(s.Hi-s.Lo+1)
}

// between is a random real number of a range, often one of its ends.
func between(r *rand.Rand, s api.Span) *big.Rat {
	x := big.NewRat(int64(within(r, s)), 1)
	if r.Intn(2) == 0 {
		return x
	}
	// It is moved towards an end by a random part of the way.
	rest := new(big.Rat).Sub(big.NewRat(int64(within(r, s)), 1), x)
	return x.Add(x, rest.Mul(rest, big.NewRat(int64(r.Intn(1000)), 999)))
}

// anyLeft is what is in a machine in a random truth.
func anyLeft(r *rand.Rand, s api.ClShop, colour, rinses int) *big.Rat {
	grams := between(r, s.Colours[colour].Stay)
	for range rinses {
		grams = product(grams, between(r, s.Keep), parts(1))
	}
	return grams
}

// rounded is a random number with one digit that is not 0, or 0.
func rounded(r *rand.Rand, most int) int {
	n := []int{1, 2, 5}[r.Intn(3)]
	for range r.Intn(6) {
		n *= 10
	}
	return n * r.Intn(4) / 3 % (most + 1)
}

// anyNumber is a random number from least to most, often a rounded one.
func anyNumber(r *rand.Rand, least, most int) int {
	if r.Intn(3) == 0 {
		return least + r.Intn(most-least+1)
	}
	return max(least, rounded(r, most))
}

// anySpan is a random range from 0 to most at most.
func anySpan(r *rand.Rand, most int) api.Span {
	a, b := anyNumber(r, 0, most), anyNumber(r, 0, most)
	return span(min(a, b), max(a, b))
}

// anyShop is a random shop.
func anyShop(r *rand.Rand) api.ClShop {
	colours := 1 + r.Intn(mostColours)
	keep := anySpan(r, 1000)
	s := shop(keep.Lo, keep.Hi, anyNumber(r, 0, mostRinse))
	for i := range colours {
		stay := anySpan(r, mostStay)
		var shows []int
		for range colours {
			shows = append(shows, anyNumber(r, 0, []int{10, 100, 1000}[r.Intn(3)]))
		}
		s.Colours = append(s.Colours, hue(string(rune('a'+i)), stay.Lo, stay.Hi, shows...))
	}
	return s
}

// anyBatch is a random batch.
func anyBatch(r *rand.Rand, s api.ClShop) api.ClBatch {
	return batch(r.Intn(len(s.Colours)), anyNumber(r, 1, mostGrams))
}

// anyChain is a random shop of which as many rinses are needed as are drawn, so that all of them are needed often.
func anyChain(r *rand.Rand) api.ClShop {
	var rows [][]int
	colours := 1 + r.Intn(mostColours)
	most := r.Intn(mostRinses + 1)
	for range colours {
		var row []int
		for range colours {
			n := r.Intn(most + 1)
			if r.Intn(6) == 0 {
				n = tooMany
			}
			row = append(row, n)
		}
		rows = append(rows, row)
	}
	return chain(r.Intn(4)*25, rows...)
}

// job is random batches in a random shop.
type job struct {
	s     api.ClShop
	start int
	l     []api.ClBatch
}

// anyJob is random work of so many batches at most.
func anyJob(r *rand.Rand, most int) job {
	j := job{s: anyShop(r)}
	many := r.Intn(most + 1)
	if r.Intn(2) == 0 {
		j.s = anyChain(r)
		j.l = slices.Repeat(batches(1000, 0), many)
		for i := range j.l {
			j.l[i].Colour = r.Intn(len(j.s.Colours))
		}
	} else {
		for range many {
			j.l = append(j.l, anyBatch(r, j.s))
		}
	}
	j.start = r.Intn(len(j.s.Colours))
	return j
}

// eachJob calls a test with random work.
func eachJob(seed int64, times, most int, test func(r *rand.Rand, j job)) {
	r := rand.New(rand.NewSource(seed))
	for range times {
		test(r, anyJob(r, most))
	}
}

// eachChange calls a test with random shops, and random changes from a colour to a batch.
func eachChange(seed int64, times int, test func(r *rand.Rand, s api.ClShop, before int, b api.ClBatch)) {
	eachJob(seed, times, 1, func(r *rand.Rand, j job) {
		b := anyBatch(r, j.s)
		if len(j.l) > 0 {
			b = j.l[0]
		}
		test(r, j.s, j.start, b)
	})
}

// answer is what all functions but Check tell of some work.
type answer struct {
	left        api.Span
	rinses      int
	lost, shows int
	best        []int
	loses       int
	at, rushed  int
	orders      [2][]int
	both        int
	errors      answers
}

// askAll asks for all of this.
func askAll(g given) answer {
	var a answer
	a.left, a.errors.left = colour.Left(g.s, g.start, g.many)
	a.rinses, a.errors.rinses = colour.Rinses(g.s, g.start, g.b)
	a.lost, a.errors.lost = colour.Lost(g.s, g.start, g.l, g.order)
	a.shows, a.errors.shows = colour.Shows(g.s, g.start, g.l, g.order, g.rinses)
	a.best, a.loses, a.errors.best = colour.Best(g.s, g.start, g.l)
	a.at, a.rushed, a.errors.rush = colour.Rush(g.s, g.start, g.l, g.order, g.b)
	a.orders, a.both, a.errors.two = colour.Two(g.s, g.starts, g.l)
	return a
}
