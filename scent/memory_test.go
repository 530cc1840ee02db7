package scent_test

import (
	"math"
	"math/rand"
	"reflect"
	"slices"
	"testing"

	"stearin/api"
	"stearin/scent"
)

// callAll calls all functions.
func callAll(g given) []any {
	part, at, e := scent.Check(g.s)
	content, f := scent.Content(g.s, g.l)
	made, h := scent.Made(g.s, g.l, g.batch, g.t)
	left, i := scent.Left(g.s, g.l)
	batch, thing, j := scent.Keeps(g.s, g.l)
	take, k := scent.Take(g.s, g.l, g.lot)
	pull, l := scent.Pull(g.s, g.l)
	can, must, m := scent.Pale(g.s, g.l, g.dye, g.shows)
	// Nil and an empty list are the same.
	content, made, left, pull = append([][]api.Span{}, content...), append([]int{}, made...), append([]int{}, left...), append([]api.Span{}, pull...)
	return []any{part, at, e, content, f, made, h, left, i, batch, thing, j, take, k, pull, l, can, must, m}
}

// eachGiven calls a test with random arguments.
func eachGiven(seed int64, times int, test func(r *rand.Rand, g given)) {
	eachSize(seed, times, func(r *rand.Rand, s api.ScShop, l []api.ScBatch) {
		g := given{s: s, l: l, batch: r.Intn(len(l)), lot: r.Intn(len(s.Lots)), dye: r.Intn(len(s.Things)), shows: r.Intn(1000)}
		g.t = anyTruth(r, s, l, g.batch)
		test(r, g)
	})
}

// behind is a copy of a list, with one more element behind its end.
func behind[T any](list []T, more T) []T {
	return append(slices.Clone(list), more)[:len(list)]
}

// whole is a list with what is behind its end.
func whole[T any](list []T) []T { return list[:len(list)+1] }

// lists are all lists of some arguments, with what is behind their ends.
func lists(g given) []any {
	all := []any{whole(g.s.Things), whole(g.s.Lots), whole(g.l), whole(g.t.Lots), whole(g.t.Back), whole(g.t.Added)}
	for _, lot := range g.s.Lots {
		all = append(all, whole(lot.Parts))
	}
	for _, b := range g.l {
		all = append(all, whole(b.Grams), whole(b.Back), whole(b.Added))
	}
	for _, list := range slices.Concat(g.t.Lots, g.t.Back) {
		all = append(all, whole(list))
	}
	return all
}

// roomy is a copy of arguments in which each list has one more element behind its end.
func roomy(g given) given {
	g.s.Things, g.s.Lots, g.l = behind(g.s.Things, api.ScThing{Name: "behind"}), behind(g.s.Lots, lot("behind")), behind(g.l, api.ScBatch{Grams: []int{77}})
	for i, lot := range g.s.Lots {
		g.s.Lots[i].Parts = behind(lot.Parts, span(77, 78))
	}
	for i, b := range g.l {
		g.l[i] = api.ScBatch{Grams: behind(b.Grams, 77), Back: behind(b.Back, 78), Added: behind(b.Added, span(77, 78))}
	}
	g.t = api.ScTruth{Lots: behind(g.t.Lots, []int{77}), Back: behind(g.t.Back, []int{78}), Added: behind(g.t.Added, 79)}
	for _, all := range [][][]int{g.t.Lots, g.t.Back} {
		for i, list := range all {
			all[i] = behind(list, 80)
		}
	}
	return g
}

// P7.14: arguments are as they were, also behind their length.
func TestArgumentsAreNotModified(t *testing.T) {
	eachGiven(714, 100, func(r *rand.Rand, g given) {
		own, copied := roomy(g), roomy(g)
		callAll(own)
		if !reflect.DeepEqual(lists(own), lists(copied)) {
			t.Fatalf("%v, not %v", own, g)
		}
	})
}

// P7.14: the same call returns the same again.
func TestNothingIsKept(t *testing.T) {
	eachGiven(7140, 100, func(r *rand.Rand, g given) {
		first := callAll(g)
		callAll(good())
		callAll(given{batch: -1, shows: -1})
		if again := callAll(g); !reflect.DeepEqual(first, again) {
			t.Fatalf("%v; %v", first, again)
		}
	})
}

// fresh reports whether results of a call are not changed if another one is.
func fresh[T comparable](call func() []T, other T) bool {
	first, second := call(), call()
	want := slices.Clone(first)
	for i := range first[:cap(first)] {
		first[:cap(first)][i] = other
	}
	return len(want) > 0 && slices.Equal(second, want) && slices.Equal(call(), want)
}

// P7.14: results are new memory.
func TestResultsAreNewMemory(t *testing.T) {
	for _, g := range []given{good(), {s: example(), l: three(), batch: 2, t: truthOf(2)}} {
		copied := roomy(g)
		if !fresh(func() []int { l, _ := scent.Made(g.s, g.l, g.batch, g.t); return l }, 77) {
			t.Error("Made")
		}
		if !fresh(func() []int { l, _ := scent.Left(g.s, g.l); return l }, 77) {
			t.Error("Left")
		}
		if !fresh(func() []api.Span { l, _ := scent.Pull(g.s, g.l); return l }, span(77, 78)) {
			t.Error("Pull")
		}
		for at := range g.l {
			if !fresh(func() []api.Span { l, _ := scent.Content(g.s, g.l); return l[at] }, span(77, 78)) {
				t.Error("Content")
			}
		}
		if !reflect.DeepEqual(lists(roomy(g)), lists(copied)) {
			t.Errorf("%v", g)
		}
	}
}

// P7.14: the lists of one result share no memory, not even behind their ends.
func TestListsOfContentShareNothing(t *testing.T) {
	for _, own := range []api.ScShop{example(), with(func(s *api.ScShop) {
		s.Things = s.Things[:1]
		for i := range s.Lots {
			s.Lots[i].Parts = s.Lots[i].Parts[:1]
		}
	})} {
		l := three()
		for i := range l {
			l[i].Added = l[i].Added[:len(own.Things)]
		}
		want := contentOf(t, own, l)
		got := contentOf(t, own, l)
		for at := range got {
			list := got[at][:cap(got[at])]
			for i := range list {
				list[i] = span(-1, -2)
			}
			for other := at + 1; other < len(got); other++ {
				if !slices.Equal(got[other], want[other]) {
					t.Errorf("%d is in %d", other, at)
				}
			}
		}
		// What is behind the end of one is not the beginning of another one.
		got = contentOf(t, own, l)
		for at := range got {
			_ = append(got[at], span(-1, -2))
		}
		if !reflect.DeepEqual(got, want) {
			t.Errorf("%v, not %v", got, want)
		}
	}
}

// wildly makes random arguments, also such as are not valid.
type wildly struct {
	*rand.Rand
	numbers []int
}

func (w wildly) number() int {
	if w.Intn(12) > 0 {
		return w.Intn(12)
	}
	return w.numbers[w.Intn(len(w.numbers))]
}

// list is a list with about so many numbers.
func (w wildly) list(many int) []int {
	var list []int
	for range w.about(many) {
		list = append(list, w.number())
	}
	return list
}

// spans is a list with about so many ranges.
func (w wildly) spans(many int) []api.Span {
	var list []api.Span
	for range w.about(many) {
		lo := w.number()
		list = append(list, span(lo, lo+w.number()))
	}
	return list
}

// about is a number, and sometimes another one near it.
func (w wildly) about(many int) int {
	if w.Intn(20) > 0 {
		return many
	}
	return max(0, many+w.Intn(3)-1)
}

// given are any arguments.
func (w wildly) given() given {
	things, lots := 1+w.Intn(5), 1+w.Intn(6)
	g := given{batch: w.number(), lot: w.number(), dye: w.number(), shows: w.number()}
	for i := range w.about(things) {
		own := anyThing(w.Rand, i%(1+things), 100)
		if w.Intn(10) == 0 {
			own.Kind, own.Limit = w.number(), w.number()
		}
		g.s.Things = append(g.s.Things, own)
	}
	for i := range w.about(lots) {
		g.s.Lots = append(g.s.Lots, lot(string(rune('a'+i)), w.spans(things)...))
	}
	for i := range w.about(1 + w.Intn(6)) {
		g.l = append(g.l, api.ScBatch{Grams: w.list(lots), Back: w.list(w.Intn(i + 1)), Added: w.spans(things)})
	}
	for range w.about(lots) {
		g.t.Lots = append(g.t.Lots, w.list(things))
	}
	for range w.Intn(6) {
		g.t.Back = append(g.t.Back, w.list(things))
	}
	g.t.Added = w.list(things)
	return g
}

// P7.14, P1: any arguments are accepted. Each call returns, and with an error nothing else.
func TestAnyArgumentsAreAccepted(t *testing.T) {
	w := wildly{rand.New(rand.NewSource(7141)), []int{math.MinInt, math.MinInt + 1, math.MinInt32, -1000000, -2, -1, 13, 100, 101, 1000, 1001, 100000, 100001, 1000000, 1000001, 10000000, 10000001, math.MaxInt32, math.MaxInt - 1, math.MaxInt}}
	many := map[api.Errno]int{}
	for range 20000 {
		g := w.given()
		if w.Intn(3) == 0 {
			g.s = anyShop(w.Rand, small())
		}
		if _, _, e := scent.Check(g.s); e == api.OK && w.Intn(2) == 0 {
			g.l = anyBatches(w.Rand, g.s, small())
		}
		many[ask(t, g).content]++
	}
	if many[api.OK] < 1000 || many[api.ErrDown] < 10 || many[api.ErrRange] < 100 || many[api.ErrLong] < 100 || many[api.ErrArg] < 10 {
		t.Errorf("%v", many)
	}
	ask(t, given{})
	for _, n := range []int{math.MinInt, math.MaxInt} {
		ask(t, given{s: example(), l: melted(), batch: n, lot: n, dye: n, shows: n, t: api.ScTruth{Lots: [][]int{{n}}, Back: [][]int{{n}}, Added: []int{n}}})
		ask(t, given{s: example(), l: []api.ScBatch{{Grams: []int{n, n}, Added: []api.Span{span(n, n), span(n, n), span(n, n)}}}})
		ask(t, given{s: example(), l: append(melted(), api.ScBatch{Grams: []int{1, 1}, Back: []int{n, n}, Added: spans(3)})})
		ask(t, given{s: api.ScShop{Things: []api.ScThing{{Name: "a", Kind: n, Limit: n, Weak: n, Fade: n}}, Lots: []api.ScLot{lot("a", span(n, n))}}})
	}
}

// R3: nil and empty are the same.
func TestNilAndEmptyAreTheSame(t *testing.T) {
	none := given{}
	empty := given{s: api.ScShop{Things: []api.ScThing{}, Lots: []api.ScLot{}}, l: []api.ScBatch{}, t: api.ScTruth{Lots: [][]int{}, Back: [][]int{}, Added: []int{}}}
	if !reflect.DeepEqual(callAll(none), callAll(empty)) {
		t.Errorf("%v; %v", callAll(none), callAll(empty))
	}
	none, empty = good(), good()
	none.l[0].Back, none.t.Back = nil, nil
	empty.l[0].Back, empty.t.Back = []int{}, [][]int{}
	if !reflect.DeepEqual(callAll(none), callAll(empty)) || ask(t, empty) != (answers{}) {
		t.Errorf("%v; %v", callAll(none), callAll(empty))
	}
}
