package scent_test

import (
	"math"
	"reflect"
	"slices"
	"testing"

	"stearin/api"
	"stearin/scent"
)

// P7.2: the example of the chapter.
func TestContentExample(t *testing.T) {
	got, e := scent.Content(example(), melted())
	want := [][]api.Span{
		{span(22000000, 25000000), span(100000, 200000), span(0, 61600)},
		{span(8800000, 10000000), span(40000, 80000), span(0, 25800)},
	}
	if !reflect.DeepEqual(got, want) || e != api.OK {
		t.Errorf("Content = %v, %d", got, e)
	}
}

// P7.2: the example of the chapter, and one more truth of each batch.
func TestMadeExample(t *testing.T) {
	for i, c := range []struct {
		batch int
		truth api.ScTruth
		want  []int
	}{
		{0, api.ScTruth{Lots: [][]int{{0, 0, 1}, {15000, 600, 100}}, Added: []int{20500, 0, 0}}, []int{23500000, 120000, 20800}},
		{0, api.ScTruth{Lots: [][]int{{0, 0, 2}, {20000, 1000, 300}}, Added: []int{21000, 0, 0}}, []int{25000000, 200000, 61600}},
		{1, api.ScTruth{Lots: [][]int{{0, 0, 1}, {15000, 600, 100}}, Back: [][]int{{22001, 150, 62}}, Added: []int{0, 0, 0}}, []int{8800400, 60000, 25300}},
	} {
		if got, e := scent.Made(example(), melted(), c.batch, c.truth); !slices.Equal(got, c.want) || e != api.OK {
			t.Errorf("%d: Made = %v, %d, not %v", i, got, e, c.want)
		}
	}
}

// P7.2: a batch comes back with its parts, rounded outwards, once for each time that it is melted.
func TestContentOfWhatComesBack(t *testing.T) {
	s, l := plain(api.ScThing{Kind: api.ScMetal}, span(1, 2), 3)
	l[0].Added[0] = span(0, 1)
	// 3 to 1006 micrograms in 3 grams: 1 to 336 parts. 1 to 336 in one gram, and 5 to 10 in 5 more: 6 to 346 in 6, 1 to 58 parts.
	l = append(l, api.ScBatch{Grams: []int{5}, Back: []int{1}, Added: spans(1)}, api.ScBatch{Grams: []int{0}, Back: []int{0, 2}, Added: spans(1)}, api.ScBatch{Grams: []int{0}, Back: []int{2, 1, 2}, Added: []api.Span{span(7, 7)}})
	got, e := scent.Content(s, l)
	want := [][]api.Span{{span(3, 1006)}, {span(6, 346)}, {span(2, 116)}, {span(7005, 7846)}}
	if !reflect.DeepEqual(got, want) || e != api.OK {
		t.Errorf("Content = %v, %d", got, e)
	}
}

// P7.2: the least number is rounded down, the greatest one up, and what divides is neither.
func TestPartsAreRounded(t *testing.T) {
	for i, c := range []struct{ lot, added, back api.Span }{
		{span(0, 0), span(0, 0), span(0, 0)},
		{span(5, 5), span(0, 0), span(5, 5)},
		{span(0, 0), span(1, 1), span(142, 143)},
		{span(0, 0), span(7, 7), span(1000, 1000)},
		{span(0, 0), span(6, 8), span(857, 1143)},
		{span(1, 1), span(6, 8), span(858, 1144)},
		{span(1000000, 1000000), span(0, 0), span(1000000, 1000000)},
	} {
		s, l := plain(api.ScThing{Kind: api.ScMetal}, c.lot, 7)
		l[0].Added[0] = c.added
		l = append(l, api.ScBatch{Grams: []int{0}, Back: []int{1}, Added: spans(1)})
		got, e := scent.Content(s, l)
		if e != api.OK || len(got) != 2 || got[1][0] != c.back {
			t.Errorf("%d: Content = %v, %d, not %v", i, got, e, c.back)
		}
	}
}

// P7.2: parts are MaxScParts, if they would be above it; the micrograms of the batch itself are not bounded.
func TestPartsAreBounded(t *testing.T) {
	for i, c := range []struct{ added, own, back api.Span }{
		{span(0, 1000), span(1, 1000001), span(1, 1000000)},
		{span(999, 1000), span(999001, 1000001), span(999001, 1000000)},
		{span(1000, 1000), span(1000001, 1000001), span(1000000, 1000000)},
		{span(1000, 10000000), span(1000001, 10000000001), span(1000000, 1000000)},
		{span(10000000, 10000000), span(10000000001, 10000000001), span(1000000, 1000000)},
	} {
		s, l := plain(api.ScThing{Kind: api.ScMetal}, span(1, 1), 1)
		l[0].Added[0] = c.added
		l = append(l, api.ScBatch{Grams: []int{0}, Back: []int{1}, Added: spans(1)})
		got, e := scent.Content(s, l)
		if want := [][]api.Span{{c.own}, {c.back}}; !reflect.DeepEqual(got, want) || e != api.OK {
			t.Errorf("%d: Content = %v, %d, not %v", i, got, e, want)
		}
	}
}

// P7.2: as much as there can be.
func TestContentOfAsMuchAsThereCanBe(t *testing.T) {
	s, l := full()
	got, e := scent.Content(s, l)
	if e != api.OK || len(got) != 6 {
		t.Fatalf("Content = %v, %d", got, e)
	}
	for i, list := range got {
		// Each batch before has 1000000 parts at most, and none at least.
		want := slices.Repeat([]api.Span{span(0, (600000+i*100000)*1000000+10000000000)}, 5)
		if !slices.Equal(list, want) {
			t.Errorf("%d: %v, not %v", i, list, want)
		}
	}
	if got, e := scent.Pull(s, l); !slices.Equal(got, slices.Repeat([]api.Span{span(0, 1000)}, 6)) || e != api.OK {
		t.Errorf("Pull = %v, %d", got, e)
	}
	if batch, thing, e := scent.Keeps(s, l); batch != 0 || thing != 0 || e != api.OK {
		t.Errorf("Keeps = %d, %d, %d", batch, thing, e)
	}
	if got, e := scent.Left(s, l); !slices.Equal(got, []int{100000, 300000, 500000, 700000, 900000, 1100000}) || e != api.OK {
		t.Errorf("Left = %v, %d", got, e)
	}
}

// P7.3: the example of the chapter, and batches of which all, or nothing, is taken.
func TestLeft(t *testing.T) {
	if got, e := scent.Left(example(), melted()); !slices.Equal(got, []int{600, 900}) || e != api.OK {
		t.Errorf("Left = %v, %d", got, e)
	}
	if got, e := scent.Left(example(), melted()[:1]); !slices.Equal(got, []int{1000}) || e != api.OK {
		t.Errorf("Left = %v, %d", got, e)
	}
	if got, e := scent.Left(example(), three()); !slices.Equal(got, []int{0, 600, 1000}) || e != api.OK {
		t.Errorf("Left = %v, %d", got, e)
	}
	// What is added has no weight.
	s, l := plain(api.ScThing{}, span(0, 0), 5, 7)
	l[1].Added[0] = span(1000, 2000)
	if got, e := scent.Left(s, l); !slices.Equal(got, []int{5, 7}) || e != api.OK {
		t.Errorf("Left = %v, %d", got, e)
	}
}

// P7.3: the examples of the chapter, the first batch, and the first thing in it.
func TestKeeps(t *testing.T) {
	limits := func(list ...int) api.ScShop {
		return with(func(s *api.ScShop) {
			for i, n := range list {
				s.Things[i].Limit = n
			}
		})
	}
	for i, c := range []struct {
		s            api.ScShop
		batch, thing int
	}{
		{example(), -1, -1},
		{limits(60000, 2000, 61), 0, 2},
		{limits(60000, 2000, 62), -1, -1},
		// 25000000, 200000 and 61600 of 1000 grams, and 10000000, 80000 and 25800 of 900.
		{limits(25000, 200, 62), -1, -1},
		{limits(24999, 200, 62), 0, 0},
		{limits(25000, 199, 62), 0, 1},
		{limits(24999, 199, 61), 0, 0},
		{limits(25000, 199, 61), 0, 1},
		{limits(0, 0, 0), 0, 0},
		{limits(1000000, 1000000, 0), 0, 2},
		{limits(1000000, 1000000, 1000000), -1, -1},
	} {
		if batch, thing, e := scent.Keeps(c.s, melted()); batch != c.batch || thing != c.thing || e != api.OK {
			t.Errorf("%d: Keeps = %d, %d, %d, not %d, %d", i, batch, thing, e, c.batch, c.thing)
		}
	}
	// A batch behind the first one: the limit is that of the batch as it is made, and not of its rounded parts.
	for limit, want := range map[int][2]int{0: {0, 0}, 9: {0, 0}, 10: {2, 0}, 11: {2, 0}, 12: {-1, -1}} {
		s, l := plain(api.ScThing{Kind: api.ScMetal, Limit: limit}, span(0, 10), 100, 200, 500)
		l[2].Added[0] = span(0, 1)
		if batch, thing, e := scent.Keeps(s, l); batch != want[0] || thing != want[1] || e != api.OK {
			t.Errorf("%d: Keeps = %d, %d, %d, not %v", limit, batch, thing, e, want)
		}
	}
}

// P7.3: a batch before the one that does not keep a limit can have a thing above it that is behind in the list.
func TestKeepsTheFirstBatchBeforeTheFirstThing(t *testing.T) {
	s := api.ScShop{Things: []api.ScThing{{Name: "a", Limit: 5}, {Name: "b", Limit: 5}}, Lots: []api.ScLot{lot("a", span(6, 6), span(0, 0)), lot("b", span(0, 0), span(6, 6))}}
	l := []api.ScBatch{{Grams: []int{1, 1}, Added: spans(2)}, {Grams: []int{0, 1}, Added: spans(2)}, {Grams: []int{1, 0}, Added: spans(2)}}
	if batch, thing, e := scent.Keeps(s, l); batch != 1 || thing != 1 || e != api.OK {
		t.Errorf("Keeps = %d, %d, %d", batch, thing, e)
	}
	// 24 micrograms of b are not above 5 parts of 5 grams; the 2 that come back at most are too many.
	l = []api.ScBatch{{Grams: []int{2, 1}, Added: spans(2)}, {Grams: []int{1, 0}, Back: []int{3}, Added: spans(2)}, {Grams: []int{0, 4}, Back: []int{0, 1}, Added: spans(2)}}
	if batch, thing, e := scent.Keeps(s, l); batch != 2 || thing != 1 || e != api.OK {
		t.Errorf("Keeps = %d, %d, %d", batch, thing, e)
	}
}

// P7.4: the examples of the chapter.
func TestTakeExamples(t *testing.T) {
	for lot, want := range []api.Span{span(0, 99200), span(0, 192)} {
		if got, e := scent.Take(example(), melted()[:1], lot); got != want || e != api.OK {
			t.Errorf("%d: Take = %v, %d, not %v", lot, got, e, want)
		}
	}
}

// P7.4: numbers of grams that are bounded below, above, by both, or by what there can be.
func TestTake(t *testing.T) {
	none := span(0, 0)
	for i, c := range []struct {
		limit int
		parts api.Span
		grams int
		added int
		want  api.Span
		e     api.Errno
	}{
		// A lot as good as the limit changes nothing.
		{10, span(0, 10), 7, 0, span(0, 99993), api.OK},
		{10, span(10, 10), 100000, 0, span(0, 0), api.OK},
		{10, span(10, 10), 7, 1, none, api.ErrDown},
		{0, span(0, 0), 100, 0, span(0, 99900), api.OK},
		// One above it makes it worse: nothing is spare.
		{10, span(10, 11), 7, 0, none, api.ErrDown},
		{1000000, span(1000000, 1000000), 1, 10000000, none, api.ErrDown},
		// One below it makes up for what is added: 1000 micrograms by 100 grams, or 93 more.
		{10, span(0, 0), 7, 1, span(93, 99993), api.OK},
		{11, span(1, 1), 7, 1, span(93, 99993), api.OK},
		{10, span(0, 1), 7, 1, span(105, 99993), api.OK},
		{10, span(0, 3), 100, 1, span(43, 99900), api.OK},
		{10, span(0, 0), 100, 1, span(0, 99900), api.OK},
		{10, span(0, 0), 99, 1, span(1, 99901), api.OK},
		{10, span(0, 0), 101, 1, span(0, 99899), api.OK},
		{1, span(0, 0), 1, 100, span(99999, 99999), api.OK},
		{1, span(0, 0), 2, 100, span(99998, 99998), api.OK},
		{1, span(0, 0), 100000, 100, span(0, 0), api.OK},
		{1, span(0, 0), 1, 101, none, api.ErrDown},
		{1, span(0, 0), 100000, 101, none, api.ErrDown},
		{0, span(0, 0), 1, 1, none, api.ErrDown},
	} {
		s, l := plain(api.ScThing{Kind: api.ScMetal, Limit: c.limit}, c.parts, c.grams)
		l[0].Added[0] = span(0, c.added)
		if got, e := scent.Take(s, l, 0); got != c.want || e != c.e {
			t.Errorf("%d: Take = %v, %d, not %v, %d", i, got, e, c.want, c.e)
		}
	}
}

// P7.4: one thing bounds the grams below, another one above; of a third one each gram has as much as its limit.
func TestTakeWithinTwoBounds(t *testing.T) {
	for i, c := range []struct {
		limit, third int
		want         api.Span
		e            api.Errno
	}{
		// 2000 micrograms of the first thing need 200 grams in all. Each gram more has 17 parts of the second one, less its limit: these are at most 100 times this limit.
		{17, 0, span(100, 100000), api.OK},
		{16, 0, span(100, 1600), api.OK},
		{10, 0, span(100, 142), api.OK},
		{9, 0, span(100, 112), api.OK},
		{8, 0, span(0, 0), api.ErrDown},
		{10, 1, span(0, 0), api.ErrDown},
	} {
		s := api.ScShop{
			Things: []api.ScThing{{Name: "a", Limit: 10}, {Name: "b", Limit: c.limit}, {Name: "c", Limit: 3}},
			Lots:   []api.ScLot{lot("clean", span(0, 0), span(0, 0), span(3, 3)), lot("mixed", span(0, 0), span(0, 17), span(3, 3))},
		}
		l := []api.ScBatch{{Grams: []int{100, 0}, Added: []api.Span{span(1, 2), {}, span(0, c.third)}}}
		// In whatever order the things are.
		for turn := range s.Things {
			if got, e := scent.Take(s, l, 1); got != c.want || e != c.e {
				t.Errorf("%d, %d: Take = %v, %d, not %v, %d", i, turn, got, e, c.want, c.e)
			}
			s.Things, l[0].Added = turned(s.Things), turned(l[0].Added)
			for j := range s.Lots {
				s.Lots[j].Parts = turned(s.Lots[j].Parts)
			}
		}
	}
}

// turned is a list with its first element at the end.
func turned[T any](list []T) []T { return append(slices.Clone(list[1:]), list[0]) }

// P7.4: just the last batch counts, with what came back, and just its own grams of the lot.
func TestTakeOfTheLastBatch(t *testing.T) {
	// The first batch is far above the limit, the second one not so with 60 grams more.
	s, l := plain(api.ScThing{Kind: api.ScMetal, Limit: 1000}, span(0, 0), 10, 30)
	l[0].Added[0] = span(100, 100)
	l[1].Back = []int{9}
	if batch, _, e := scent.Keeps(s, l); batch != 0 || e != api.OK {
		t.Errorf("Keeps = %d, %d", batch, e)
	}
	// 9 grams of 10000 parts are 90000 micrograms: 90 grams.
	if got, e := scent.Take(s, l, 0); got != span(51, 99970) || e != api.OK {
		t.Errorf("Take = %v, %d", got, e)
	}
	// The limit has to be kept also with the greatest number that comes back.
	l[0].Added[0] = span(0, 100)
	if got, e := scent.Take(s, l, 0); got != span(51, 99970) || e != api.OK {
		t.Errorf("Take = %v, %d", got, e)
	}
}

// P7.5: the example of the chapter.
func TestPullExample(t *testing.T) {
	if got, e := scent.Pull(example(), melted()); !slices.Equal(got, []api.Span{span(875, 890), span(944, 952)}) || e != api.OK {
		t.Errorf("Pull = %v, %d", got, e)
	}
}

// P7.5: what is left is rounded once, and never below 0.
func TestPull(t *testing.T) {
	for i, c := range []struct {
		weak  int
		parts api.Span
		grams int
		added api.Span
		want  api.Span
	}{
		{0, span(0, 1000000), 7, span(0, 1000), span(1000, 1000)},
		{1, span(0, 0), 7, span(0, 0), span(1000, 1000)},
		{1, span(1000, 1000), 7, span(0, 0), span(999, 999)},
		{1, span(1, 1), 7, span(0, 0), span(999, 1000)},
		{1, span(999, 1001), 7, span(0, 0), span(998, 1000)},
		{1, span(1000, 2000), 7, span(0, 0), span(998, 999)},
		{100, span(10000, 10000), 7, span(0, 0), span(0, 0)},
		{100, span(9999, 9999), 7, span(0, 0), span(0, 1)},
		{100, span(9990, 10000), 7, span(0, 0), span(0, 1)},
		{100, span(9980, 10010), 7, span(0, 0), span(0, 2)},
		{100, span(10001, 20000), 7, span(0, 0), span(0, 0)},
		{100, span(1000000, 1000000), 7, span(10000000, 10000000), span(0, 0)},
		// 7000 micrograms of 7 grams are 1000 parts.
		{3, span(0, 0), 7, span(7, 7), span(997, 997)},
		{3, span(0, 0), 7, span(6, 8), span(996, 998)},
		{3, span(0, 0), 8, span(7, 7), span(997, 998)},
	} {
		s, l := plain(api.ScThing{Kind: api.ScScent, Limit: 0, Weak: c.weak}, c.parts, c.grams)
		l[0].Added[0] = c.added
		if got, e := scent.Pull(s, l); !slices.Equal(got, []api.Span{c.want}) || e != api.OK {
			t.Errorf("%d: Pull = %v, %d, not %v", i, got, e, c.want)
		}
	}
}

// P7.5: all scents weaken a wick together, and are rounded together; dyes and metals do not.
func TestPullOfSeveralScents(t *testing.T) {
	s := api.ScShop{
		Things: []api.ScThing{{Name: "a", Kind: api.ScMetal}, {Name: "b", Kind: api.ScScent, Weak: 2}, {Name: "c", Kind: api.ScDye, Fade: 9}, {Name: "d", Kind: api.ScScent, Weak: 3}, {Name: "e", Kind: api.ScScent}},
		Lots:   []api.ScLot{lot("wax", span(5000, 5000), span(200, 1200), span(5000, 5000), span(200, 1200), span(5000, 5000))},
	}
	l := []api.ScBatch{{Grams: []int{10}, Added: spans(5)}}
	// 0.4 and 0.6 at least, 2.4 and 3.6 at most.
	if got, e := scent.Pull(s, l); !slices.Equal(got, []api.Span{span(994, 999)}) || e != api.OK {
		t.Errorf("Pull = %v, %d", got, e)
	}
}

// P7.5: the example of the chapter.
func TestPaleExample(t *testing.T) {
	if can, must, e := scent.Pale(example(), melted()[:1], 1, 50); can != 51 || must != 76 || e != api.OK {
		t.Errorf("Pale = %d, %d, %d", can, must, e)
	}
	// The last batch has 40000 to 80000 of 900 grams: 44.4 to 88.9 parts. 50 are already too many, or after 44 days.
	if can, must, e := scent.Pale(example(), melted(), 1, 50); can != 0 || must != 44 || e != api.OK {
		t.Errorf("Pale = %d, %d, %d", can, must, e)
	}
}

// P7.5: dyes that are pale at once, or never, or between.
func TestPale(t *testing.T) {
	const never = 40001
	for i, c := range []struct {
		fade      int
		parts     api.Span
		added     api.Span
		shows     int
		can, must int
	}{
		// Nothing is below nothing.
		{10, span(0, 0), span(0, 0), 0, never, never},
		{1000, span(0, 100), span(0, 0), 0, never, never},
		{0, span(0, 0), span(0, 0), 0, never, never},
		{0, span(0, 0), span(0, 0), 1, 0, 0},
		{10, span(0, 0), span(0, 0), 1, 0, 0},
		// One that does not fade.
		{0, span(100, 200), span(0, 0), 100, never, never},
		{0, span(99, 200), span(0, 0), 100, 0, never},
		{0, span(98, 99), span(0, 0), 100, 0, 0},
		{0, span(0, 1000000), span(0, 10000000), 1000000, 0, never},
		{0, span(1000000, 1000000), span(0, 0), 1000000, never, never},
		// One that fades in a day, or by one part a day.
		{1000, span(1, 1), span(0, 0), 1, 1, 1},
		{1000, span(1000000, 1000000), span(10000000, 10000000), 1, 1, 1},
		{999, span(999, 1000), span(0, 0), 1, 1, 2},
		{999, span(1000, 1000), span(0, 0), 1, 2, 2},
		{1, span(1, 1), span(0, 0), 1, 1, 1},
		{1, span(1000, 1000), span(0, 0), 1, 1000, 1000},
		{1, span(1000, 1000), span(0, 0), 2, 999, 999},
		{1, span(500, 1000), span(0, 0), 1, 999, 1000},
		{1, span(1000000, 1000000), span(0, 0), 1, 1000, 1000},
		{1, span(2, 4), span(0, 0), 1, 501, 751},
		{1, span(2, 4), span(0, 0), 3, 0, 251},
		{7, span(2, 4), span(0, 0), 1, 72, 108},
		// 8000 micrograms of 4 grams are 2000 parts.
		{10, span(0, 0), span(8, 8), 1000, 51, 51},
		{10, span(0, 0), span(4, 8), 1000, 1, 51},
		{10, span(0, 0), span(3, 8), 1000, 0, 51},
		{10, span(1000, 1000), span(3, 8), 1000, 43, 67},
	} {
		s, l := plain(api.ScThing{Kind: api.ScDye, Fade: c.fade}, c.parts, 4)
		l[0].Added[0] = c.added
		if can, must, e := scent.Pale(s, l, 0, c.shows); can != c.can || must != c.must || e != api.OK {
			t.Errorf("%d: Pale = %d, %d, %d, not %d, %d", i, can, must, e, c.can, c.must)
		}
	}
}

// P7.2, P7.5: an index is one of the whole list, and the dye is looked at that is meant.
func TestPaleOfSeveralDyes(t *testing.T) {
	s := api.ScShop{
		Things: []api.ScThing{{Name: "a", Kind: api.ScDye, Fade: 10}, {Name: "b", Kind: api.ScScent}, {Name: "c", Kind: api.ScDye, Fade: 20}},
		Lots:   []api.ScLot{lot("wax", span(200, 200), span(1, 1), span(300, 300))},
	}
	l := []api.ScBatch{{Grams: []int{10}, Added: spans(3)}, {Grams: []int{0}, Back: []int{10}, Added: spans(3)}}
	for dye, want := range map[int]int{0: 51, 2: 34} {
		if can, must, e := scent.Pale(s, l, dye, 100); can != want || must != want || e != api.OK {
			t.Errorf("%d: Pale = %d, %d, %d", dye, can, must, e)
		}
	}
	if _, _, e := scent.Pale(s, l, 1, 100); e != api.ErrArg {
		t.Errorf("Pale = %d", e)
	}
	if _, _, e := scent.Pale(s, l, math.MaxInt, 100); e != api.ErrNone {
		t.Errorf("Pale = %d", e)
	}
}
