package mould_test

import (
	"math"
	"math/rand"
	"reflect"
	"slices"
	"testing"

	"stearin/api"
	"stearin/mould"
)

// callAll calls all functions.
func callAll(g given) []any {
	e := mould.Check(g.m)
	cool, f := mould.Cool(g.m, g.t)
	warm, h := mould.Warm(g.m, g.minute)
	sets, i := mould.Sets(g.m)
	skin, j := mould.Skin(g.m, g.minute)
	hollow, k := mould.Hollow(g.m, g.plan)
	fewest, l := mould.Fewest(g.m)
	// Nil and an empty list are the same.
	cool, fewest = append([]int{}, cool...), append([]int{}, fewest...)
	warm, sets = append([]api.Span{}, warm...), append([]api.Span{}, sets...)
	return []any{e, cool, f, warm, h, sets, i, skin, j, hollow, k, fewest, l}
}

// eachGiven calls a test with random arguments.
func eachGiven(seed int64, times int, test func(r *rand.Rand, g given)) {
	eachMould(seed, times, func(r *rand.Rand, m api.MdMould) {
		test(r, given{m: m, t: anyTruth(r, m, r.Intn(30)), minute: r.Intn(100), plan: anyPlan(r, m, r.Intn(100))})
	})
}

// behind is a copy of a list, with one more element behind its end.
func behind(list []int) []int { return append(slices.Clone(list), 77)[:len(list)] }

// isAsItWas reports whether such a copy is as it was made.
func isAsItWas(list, from []int) bool {
	return slices.Equal(list[:len(list)+1], append(slices.Clone(from), 77))
}

// P5.15: arguments are as they were, also behind their length.
func TestArgumentsAreNotModified(t *testing.T) {
	eachGiven(515, 1000, func(r *rand.Rand, g given) {
		own := g
		own.t.Pour, own.t.Wall, own.plan = behind(g.t.Pour), behind(g.t.Wall), behind(g.plan)
		callAll(own)
		if !isAsItWas(own.t.Pour, g.t.Pour) || !isAsItWas(own.t.Wall, g.t.Wall) || !isAsItWas(own.plan, g.plan) {
			t.Fatalf("%v, not %v", own, g)
		}
	})
}

// P5.15: the same call returns the same again.
func TestNothingIsKept(t *testing.T) {
	eachGiven(5150, 500, func(r *rand.Rand, g given) {
		first := callAll(g)
		callAll(given{m: example(), t: steady(example(), 800, 200, 4), minute: 3, plan: []int{2, 3}})
		callAll(given{minute: -1, plan: []int{-1}})
		if again := callAll(g); !reflect.DeepEqual(first, again) {
			t.Fatalf("%v; %v", first, again)
		}
	})
}

// fresh reports whether results of a call are not changed if another one is.
func fresh[T comparable](call func() []T) bool {
	first, second := call(), call()
	want := slices.Clone(first)
	clear(first[:cap(first)])
	return len(want) > 0 && slices.Equal(second, want) && slices.Equal(call(), want)
}

// P5.15: results are new memory.
func TestResultsAreNewMemory(t *testing.T) {
	pour, outer := []int{800, 800}, []int{200, 300, 200}
	for minutes := range 4 {
		truth := api.MdTruth{Pour: pour, Wall: outer[:minutes]}
		if !fresh(func() []int { l, _ := mould.Cool(example(), truth); return l }) {
			t.Errorf("Cool after %d minutes", minutes)
		}
		if !fresh(func() []api.Span { l, _ := mould.Warm(example(), minutes); return l }) {
			t.Errorf("Warm after %d minutes", minutes)
		}
	}
	if !slices.Equal(pour, []int{800, 800}) || !slices.Equal(outer, []int{200, 300, 200}) {
		t.Errorf("%v, %v", pour, outer)
	}
	if !fresh(func() []api.Span { l, _ := mould.Sets(example()); return l }) {
		t.Error("Sets")
	}
	if !fresh(func() []int { l, _ := mould.Fewest(example()); return l }) {
		t.Error("Fewest")
	}
}

// wildly makes random arguments, also such as are not valid.
type wildly struct {
	*rand.Rand
	numbers []int
}

func (w wildly) number() int {
	if w.Intn(4) > 0 {
		return w.Intn(9)
	}
	return w.numbers[w.Intn(len(w.numbers))]
}

func (w wildly) list() []int {
	var l []int
	for range []int{0, 1, 2, 3, 8, 9, 40, 41, 600, 601}[w.Intn(10)] {
		l = append(l, w.number())
	}
	return l
}

func (w wildly) mould() api.MdMould {
	switch w.Intn(4) {
	case 0:
		return anySmall(w.Rand)
	case 1:
		return anyMould(w.Rand)
	case 2:
		return full()
	}
	return api.MdMould{
		Rings: w.number(), Give: w.number(), Pour: span(w.number(), w.number()), Wall: span(w.number(), w.number()), Set: w.number(),
		Shrink: w.number(), Skin: w.number(), Fill: w.number(), Gap: w.number(), Deep: w.number(),
	}
}

// P5.15, P1: any arguments are accepted. Each call returns, and with an error nothing else.
func TestAnyArgumentsAreAccepted(t *testing.T) {
	w := wildly{rand.New(rand.NewSource(5151)), []int{math.MinInt, math.MinInt + 1, math.MinInt32, -2000, -2, -1, 40, 41, 60, 61, 200, 201, 500, 501, 599, 600, 601, 2000, 2001, 100000, 100001, math.MaxInt32, math.MaxInt - 1, math.MaxInt}}
	for range 10000 {
		g := given{m: w.mould(), minute: w.number(), plan: w.list(), t: api.MdTruth{Pour: w.list(), Wall: w.list()}}
		if w.Intn(2) == 0 && mould.Check(g.m) == api.OK {
			g.t, g.plan = anyTruth(w.Rand, g.m, w.Intn(20)), anyPlan(w.Rand, g.m, w.Intn(601))
		}
		ask(t, g)
	}
	ask(t, given{})
	ask(t, given{m: api.MdMould{Rings: math.MaxInt, Give: math.MinInt, Gap: math.MinInt}, minute: math.MinInt, plan: []int{math.MaxInt, math.MinInt}})
}

// P1: as much as there can be to look at ends soon.
func TestTheGreatestMouldEnds(t *testing.T) {
	m := full()
	m.Gap, m.Fill, m.Deep = 1, 1, 0
	if l, e := mould.Fewest(m); len(l) != 0 || e != api.ErrDown {
		t.Errorf("Fewest = %v, %d", l, e)
	}
	m.Fill = 320
	if l, e := mould.Fewest(m); len(l) != 40 || l[0] != 561 || l[39] != 600 || e != api.OK {
		t.Errorf("Fewest = %v, %d", l, e)
	}
	m.Fill = 319
	if l, e := mould.Fewest(m); len(l) != 0 || e != api.ErrDown {
		t.Errorf("Fewest = %v, %d", l, e)
	}
}

// R3: nil and empty are the same.
func TestNilAndEmptyAreTheSame(t *testing.T) {
	for _, pour := range [][]int{{800, 800}, nil} {
		g := given{m: example(), t: api.MdTruth{Pour: pour}}
		empty := g
		empty.plan, empty.t = []int{}, api.MdTruth{Pour: append([]int{}, pour...), Wall: []int{}}
		if !reflect.DeepEqual(callAll(g), callAll(empty)) {
			t.Errorf("%v; %v", callAll(g), callAll(empty))
		}
	}
}
