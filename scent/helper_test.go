package scent_test

import (
	"iter"
	"math"
	"math/rand"
	"slices"

	"stearin/api"
)

// span is the range from one number to another one.
func span(lo, hi int) api.Span { return api.Span{Lo: lo, Hi: hi} }

// spans are as many ranges of nothing but zero.
func spans(many int) []api.Span { return make([]api.Span, many) }

// lot is a lot with a name.
func lot(name string, parts ...api.Span) api.ScLot { return api.ScLot{Name: name, Parts: parts} }

// example is the shop S of the chapter.
func example() api.ScShop {
	return api.ScShop{
		Things: []api.ScThing{{Name: "rose", Kind: api.ScScent, Limit: 60000, Weak: 5}, {Name: "red", Kind: api.ScDye, Limit: 2000, Fade: 10}, {Name: "lead", Kind: api.ScMetal, Limit: 100}},
		Lots:   []api.ScLot{lot("bees", span(0, 0), span(0, 0), span(0, 2)), lot("stubs", span(10000, 20000), span(500, 1000), span(0, 300))},
	}
}

// with is the example with a change.
func with(change func(s *api.ScShop)) api.ScShop {
	s := example()
	change(&s)
	return s
}

// melted are the batches L of the chapter.
func melted() []api.ScBatch {
	return []api.ScBatch{
		{Grams: []int{800, 200}, Added: []api.Span{span(20000, 21000), {}, {}}},
		{Grams: []int{500, 0}, Back: []int{400}, Added: spans(3)},
	}
}

// three are three batches of the example's lots, each with some of all before it.
func three() []api.ScBatch {
	return append(melted(), api.ScBatch{Grams: []int{0, 100}, Back: []int{600, 300}, Added: []api.Span{span(1, 2), span(3, 4), span(5, 6)}})
}

// plain is a shop with one lot, which has these parts of one thing, and batches of it, each of so many grams.
func plain(t api.ScThing, parts api.Span, grams ...int) (api.ScShop, []api.ScBatch) {
	t.Name = "thing"
	var l []api.ScBatch
	for _, n := range grams {
		l = append(l, api.ScBatch{Grams: []int{n}, Added: spans(1)})
	}
	return api.ScShop{Things: []api.ScThing{t}, Lots: []api.ScLot{lot("wax", parts)}}, l
}

// full are a shop and batches with as much as there can be.
func full() (api.ScShop, []api.ScBatch) {
	var s api.ScShop
	for i := range 5 {
		s.Things = append(s.Things, api.ScThing{Name: string(rune('a' + i)), Limit: 1000000, Weak: 100})
	}
	for i := range 6 {
		s.Lots = append(s.Lots, lot(string(rune('a'+i)), slices.Repeat([]api.Span{span(0, 1000000)}, 5)...))
	}
	var l []api.ScBatch
	for i := range 6 {
		b := api.ScBatch{Grams: slices.Repeat([]int{100000}, 6), Added: slices.Repeat([]api.Span{span(0, 10000000)}, 5)}
		l = append(l, b)
		if i > 0 {
			l[i].Back = slices.Repeat([]int{100000}, i)
		}
	}
	return s, l
}

// copyOf is a copy of a shop that shares nothing with it.
func copyOf(s api.ScShop) api.ScShop {
	s.Things, s.Lots = slices.Clone(s.Things), slices.Clone(s.Lots)
	for i := range s.Lots {
		s.Lots[i].Parts = slices.Clone(s.Lots[i].Parts)
	}
	return s
}

// copyOfAll is a copy of batches that shares nothing with them.
func copyOfAll(l []api.ScBatch) []api.ScBatch {
	l = slices.Clone(l)
	for i, b := range l {
		l[i] = api.ScBatch{Grams: slices.Clone(b.Grams), Back: slices.Clone(b.Back), Added: slices.Clone(b.Added)}
	}
	return l
}

// outside are numbers of which none is from least to most.
func outside(least, most int) []int {
	return []int{least - 1, most + 1, least - 1000000, most + 1000000, math.MinInt, math.MaxInt, math.MinInt32, math.MaxInt32}
}

// heavy is the weight of a batch, by the definition.
func heavy(b api.ScBatch) int {
	grams := 0
	for _, n := range b.Grams {
		grams += n
	}
	for _, n := range b.Back {
		grams += n
	}
	return grams
}

// back is the parts of a thing with which a batch comes back.
func back(content api.Span, weight int) api.Span {
	s := span(content.Lo/weight, (content.Hi+weight-1)/weight)
	return span(min(s.Lo, 1000000), min(s.Hi, 1000000))
}

// contents is the micrograms of each batch and each thing, at least and at most, by the definition.
func contents(s api.ScShop, l []api.ScBatch) [][]api.Span {
	var list [][]api.Span
	for _, b := range l {
		var own []api.Span
		for thing := range s.Things {
			lo, hi := 1000*b.Added[thing].Lo, 1000*b.Added[thing].Hi
			for i, lot := range s.Lots {
				lo += b.Grams[i] * lot.Parts[thing].Lo
				hi += b.Grams[i] * lot.Parts[thing].Hi
			}
			for i, grams := range b.Back {
				parts := back(list[i][thing], heavy(l[i]))
				lo += grams * parts.Lo
				hi += grams * parts.Hi
			}
			own = append(own, span(lo, hi))
		}
		list = append(list, own)
	}
	return list
}

// truthAt is a truth of a batch, with each number at the least end of its range; and all of these numbers, and their ranges.
func truthAt(s api.ScShop, l []api.ScBatch, at int) (t api.ScTruth, numbers []*int, ranges []api.Span) {
	list := func(from []api.Span) []int {
		own := make([]int, len(from))
		for i, r := range from {
			own[i] = r.Lo
			numbers, ranges = append(numbers, &own[i]), append(ranges, r)
		}
		return own
	}
	for _, lot := range s.Lots {
		t.Lots = append(t.Lots, list(lot.Parts))
	}
	all := contents(s, l[:at])
	for i := range l[at].Back {
		var parts []api.Span
		for thing := range s.Things {
			parts = append(parts, back(all[i][thing], heavy(l[i])))
		}
		t.Back = append(t.Back, list(parts))
	}
	t.Added = list(l[at].Added)
	return t, numbers, ranges
}

// truths yields all truths of a batch, always in the same memory.
func truths(s api.ScShop, l []api.ScBatch, at int) iter.Seq[api.ScTruth] {
	t, numbers, ranges := truthAt(s, l, at)
	return func(yield func(api.ScTruth) bool) {
		for {
			if !yield(t) {
				return
			}
			i := 0
			for i < len(numbers) && *numbers[i] == ranges[i].Hi {
				*numbers[i] = ranges[i].Lo
				i++
			}
			if i == len(numbers) {
				return
			}
			*numbers[i]++
		}
	}
}

// manyTruths is how many truths a batch has, or more than a million.
func manyTruths(s api.ScShop, l []api.ScBatch, at int) int {
	_, _, ranges := truthAt(s, l, at)
	many := 1
	for _, r := range ranges {
		many *= r.Hi - r.Lo + 1
		if many > 1000000 {
			break
		}
	}
	return many
}

// few reports whether no batch has more than so many truths.
func few(s api.ScShop, l []api.ScBatch, most int) bool {
	for at := range l {
		if manyTruths(s, l, at) > most {
			return false
		}
	}
	return true
}

// ends are the truths of a batch with the least numbers, and with the greatest ones.
func ends(s api.ScShop, l []api.ScBatch, at int) (least, most api.ScTruth) {
	least, _, _ = truthAt(s, l, at)
	most, numbers, ranges := truthAt(s, l, at)
	for i, r := range ranges {
		*numbers[i] = r.Hi
	}
	return least, most
}

// anyTruth is a random truth of a batch.
func anyTruth(r *rand.Rand, s api.ScShop, l []api.ScBatch, at int) api.ScTruth {
	t, numbers, ranges := truthAt(s, l, at)
	for i, own := range ranges {
		*numbers[i] = within(r, own)
	}
	return t
}

// within is a random number of a range, often one of its ends.
func within(r *rand.Rand, s api.Span) int {
	switch r.Intn(4) {
	case 0:
		return s.Lo
	case 1:
		return s.Hi
	}
	return s.Lo + r.Intn(s.Hi-s.Lo+1)
}

// has is the micrograms of each thing of a batch in a truth, by the definition.
func has(s api.ScShop, b api.ScBatch, t api.ScTruth) []int {
	var list []int
	for thing := range s.Things {
		micrograms := t.Added[thing] * 1000
		for i, grams := range b.Grams {
			micrograms += t.Lots[i][thing] * grams
		}
		for i, grams := range b.Back {
			micrograms += t.Back[i][thing] * grams
		}
		list = append(list, micrograms)
	}
	return list
}

// pulls is what a wick has left in wax of this weight with these micrograms, rounded down and up.
func pulls(s api.ScShop, weight int, micrograms []int) (down, up int) {
	// 1000 times the weight times what is left.
	left := 1000 * 1000 * weight
	for thing, n := range micrograms {
		left -= s.Things[thing].Weak * n
	}
	left = max(left, 0)
	down = left / (1000 * weight)
	if down*1000*weight == left {
		return down, down
	}
	return down, down + 1
}

// palesAfter is after how many days a dye is pale of which there are so many micrograms, each day tried; 40001 if it is never so.
func palesAfter(fade, weight, micrograms, shows int) int {
	for days := range 40001 {
		left := 1000 - fade*days
		if left < 0 {
			left = 0
		}
		if micrograms*left < 1000*weight*shows {
			return days
		}
		if left == 0 || fade == 0 {
			break
		}
	}
	return 40001
}

// part is a random range within another one, with at most so many numbers.
func part(r *rand.Rand, s api.Span, most int) api.Span {
	lo := s.Lo + r.Intn(s.Hi-s.Lo+1)
	return span(lo, min(s.Hi, lo+r.Intn(most)))
}

// size is how large random shops and batches are, and how wide their ranges.
type size struct{ things, lots, batches, parts, wide, grams, added int }

// small are sizes with few truths; middling is one with many, and great one with as much as there can be.
func small() size    { return size{2, 2, 3, 12, 2, 6, 1} }
func middling() size { return size{5, 6, 6, 30000, 5000, 2000, 9000} }
func great() size    { return size{5, 6, 6, 1000000, 1000000, 100000, 10000000} }

// anyThing is a random thing with one of 26 names, and about so many parts as its limit.
func anyThing(r *rand.Rand, name, parts int) api.ScThing {
	t := api.ScThing{Name: string(rune('a' + name)), Kind: r.Intn(3), Limit: min(1000000, r.Intn(2*parts+1))}
	if r.Intn(6) == 0 {
		t.Limit = r.Intn(1000001)
	}
	switch t.Kind {
	case api.ScScent:
		t.Weak = r.Intn(101)
		if r.Intn(2) == 0 {
			t.Weak = r.Intn(6)
		}
	case api.ScDye:
		t.Fade = r.Intn(30)
		if r.Intn(4) == 0 {
			t.Fade = r.Intn(1001)
		}
	}
	return t
}

// anyShop is a random shop.
func anyShop(r *rand.Rand, z size) api.ScShop {
	var s api.ScShop
	for i := range 1 + r.Intn(z.things) {
		s.Things = append(s.Things, anyThing(r, i, z.parts))
	}
	for i := range 1 + r.Intn(z.lots) {
		own := lot("lot-" + string(rune('a'+i)))
		for range s.Things {
			own.Parts = append(own.Parts, part(r, span(0, z.parts), z.wide))
		}
		s.Lots = append(s.Lots, own)
	}
	return s
}

// anyBatches are random batches of a shop.
func anyBatches(r *rand.Rand, s api.ScShop, z size) []api.ScBatch {
	var l []api.ScBatch
	var left []int
	for i := range 1 + r.Intn(z.batches) {
		b := api.ScBatch{Grams: make([]int, len(s.Lots))}
		for j := range b.Grams {
			if r.Intn(3) > 0 {
				b.Grams[j] = r.Intn(z.grams + 1)
			}
		}
		// Sometimes a batch has no number for the last ones before it.
		for j := range i - r.Intn(i+1)*r.Intn(2) {
			grams := min(100000, r.Intn(left[j]+1)*r.Intn(2))
			b.Back = append(b.Back, grams)
			left[j] -= grams
		}
		for range s.Things {
			added := api.Span{}
			if r.Intn(2) == 0 {
				added = part(r, span(0, z.added), z.added+1)
			}
			b.Added = append(b.Added, added)
		}
		if heavy(b) == 0 {
			b.Grams[r.Intn(len(b.Grams))] = 1 + r.Intn(z.grams)
		}
		left = append(left, heavy(b))
		l = append(l, b)
	}
	return l
}

// eachShop calls a test with random shops and batches of a size.
func eachShop(seed int64, times int, z size, test func(r *rand.Rand, s api.ScShop, l []api.ScBatch)) {
	r := rand.New(rand.NewSource(seed))
	for range times {
		s := anyShop(r, z)
		test(r, s, anyBatches(r, s, z))
	}
}

// eachSize calls a test with random shops and batches of all sizes.
func eachSize(seed int64, times int, test func(r *rand.Rand, s api.ScShop, l []api.ScBatch)) {
	for _, z := range []size{small(), middling(), great()} {
		eachShop(seed, times, z, test)
	}
}
