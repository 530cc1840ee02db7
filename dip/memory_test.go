package dip_test

import (
	"math"
	"math/rand"
	"reflect"
	"slices"
	"strings"
	"testing"

	"stearin/api"
	"stearin/dip"
)

// callAll calls all functions.
func callAll(g given) []any {
	part, at, e := dip.Check(g.x)
	taper, f := dip.Follow(g.x, g.t, g.plan, g.warm)
	ranges, h := dip.After(g.x, g.t, g.plan)
	warm, i := dip.Worst(g.x, g.t, g.plan, g.bound)
	kinds, j := dip.Fewest(g.x, g.t, g.plan[:min(5, len(g.plan))], g.want, g.bound)
	text, k := dip.Write(g.x, g.plan)
	read, l := dip.Read(g.x, g.text)
	// Nil and an empty list are the same.
	ranges, warm = append([]api.DpRange{}, ranges...), append([]int{}, warm...)
	kinds, read = append([]int{}, kinds...), append([]api.DpDip{}, read...)
	return []any{part, at, e, taper, f, ranges, h, warm, i, kinds, j, text, k, read, l}
}

// eachGiven calls a test with random arguments.
func eachGiven(seed int64, times int, test func(r *rand.Rand, g given)) {
	eachCase(seed, times, 12, 100, func(r *rand.Rand, x api.DpShop, start api.DpTaper, p []api.DpDip) {
		g := given{x: x, t: start, plan: p, warm: anyTruth(r, x, p), want: span(start.Top, start.Top+r.Intn(10000)), bound: r.Intn(500)}
		g.text, _ = dip.Write(x, p)
		test(r, g)
	})
}

// behind is a copy of a list, with one more element behind its end.
func behind[T any](list []T, more T) []T {
	return append(slices.Clone(list), more)[:len(list)]
}

// P4.16: arguments are as they were, also behind their length.
func TestArgumentsAreNotModified(t *testing.T) {
	eachGiven(416, 1000, func(r *rand.Rand, g given) {
		bath, mark := api.DpBath{Name: "behind"}, api.DpDip{Bath: 77}
		own := g
		own.x.Baths, own.plan, own.warm = behind(g.x.Baths, bath), behind(g.plan, mark), behind(g.warm, 77)
		callAll(own)
		if !slices.Equal(own.x.Baths[:len(g.x.Baths)+1], append(slices.Clone(g.x.Baths), bath)) || !slices.Equal(own.plan[:len(g.plan)+1], append(slices.Clone(g.plan), mark)) || !slices.Equal(own.warm[:len(g.warm)+1], append(slices.Clone(g.warm), 77)) {
			t.Fatalf("%v, not %v", own, g)
		}
	})
}

// P4.16: the same call returns the same again.
func TestNothingIsKept(t *testing.T) {
	eachGiven(4162, 500, func(r *rand.Rand, g given) {
		first := callAll(g)
		callAll(given{x: example(), t: exampleTaper(), plan: plan(dipA(), dipB(), dipC(), dipD()), want: span(3400, 3800), bound: 50, text: "low 3 40\n"})
		callAll(given{plan: plan(api.DpDip{Bath: -1}), bound: -1})
		own := g
		own.x = clone(g.x)
		if again := callAll(own); !reflect.DeepEqual(first, again) {
			t.Fatalf("%v; %v", first, again)
		}
	})
}

// fresh reports whether results of a call are not changed if another one is.
func fresh[T comparable](call func() []T) bool {
	first, second := call(), call()
	want := slices.Clone(first)
	clear(first[:cap(first)])
	return len(want) > 0 && slices.Equal(second, want) && slices.Equal(call(), want)
}

// P4.16: results are new memory.
func TestResultsAreNewMemory(t *testing.T) {
	two, warm := plan(dipB(), dipC()), []int{630, 610}
	if !fresh(func() []api.DpRange { l, _ := dip.After(example(), exampleTaper(), two); return l }) {
		t.Error("After")
	}
	if !fresh(func() []int { l, _ := dip.Worst(example(), exampleTaper(), plan(dipB(), dipA()), 1); return l }) {
		t.Error("Worst")
	}
	if !fresh(func() []int {
		l, _ := dip.Fewest(example(), exampleTaper(), plan(dipC(), dipD()), span(3400, 3800), 0)
		return l
	}) {
		t.Error("Fewest")
	}
	if !fresh(func() []api.DpDip { l, _ := dip.Read(example(), "low 3 40\nhigh 3 40\n"); return l }) {
		t.Error("Read")
	}
	if x, e := dip.Follow(example(), exampleTaper(), two, warm); e != api.OK || x == exampleTaper() || !slices.Equal(warm, []int{630, 610}) {
		t.Errorf("Follow = %v, %d", x, e)
	}
}

// wildNumbers are numbers at all limits, and far beyond them.
func wildNumbers() []int {
	return []int{math.MinInt, math.MinInt + 1, math.MinInt32, -1000000, -2, -1, 0, 1, 2, 3, 5, 6, 10, 11, 30, 31, 40, 50, 51, 100, 101, 599, 600, 601, 2000, 2001, 5000, 5001, 100000, 100001, math.MaxInt32, math.MaxInt - 1, math.MaxInt}
}

// wildly makes random numbers, ranges and texts, also such as are not valid.
type wildly struct {
	*rand.Rand
	numbers []int
}

func (w wildly) number() int {
	if w.Intn(3) > 0 {
		return w.Intn(12)
	}
	return w.numbers[w.Intn(len(w.numbers))]
}

func (w wildly) span() api.Span { return span(w.number(), w.number()) }

func (w wildly) text() string {
	return []string{"", "low 3 40\n", "a 5 1 turned\n", "low", "\n", "low 3 40 turned", "\xff\x00", strings.Repeat("low 3 40\n", 31), strings.Repeat("x", 2001)}[w.Intn(9)]
}

func (w wildly) shop() api.DpShop {
	switch w.Intn(4) {
	case 0:
		return example()
	case 1:
		return full()
	case 2:
		return anyShop(w.Rand, 50)
	}
	names := []string{"", "a", "b", "c", "low", "-", "\xff"}
	x := api.DpShop{Melt: w.number(), Coat: w.number(), Thin: w.number(), Hold: w.number(), Back: w.number(), Draw: w.number(), Set: w.number(), Run: w.number()}
	for range w.Intn(4) {
		x.Baths = append(x.Baths, api.DpBath{Name: names[w.Intn(len(names))], Warm: w.span()})
	}
	return x
}

func (w wildly) plan() []api.DpDip {
	if w.Intn(3) == 0 {
		return anyPlan(w.Rand, example(), 10)
	}
	var p []api.DpDip
	for range []int{0, 1, 2, 5, 6, 30, 31}[w.Intn(7)] {
		p = append(p, api.DpDip{Bath: w.Intn(3) * w.Intn(2), Seconds: 3 + w.Intn(10), Pause: w.Intn(50), Turned: w.Intn(2) == 0})
		if w.Intn(20) == 0 {
			p[len(p)-1] = api.DpDip{Bath: w.number(), Seconds: w.number(), Pause: w.number()}
		}
	}
	return p
}

// P4.16, P1: any arguments are accepted. Each call returns, and with an error nothing else.
func TestAnyArgumentsAreAccepted(t *testing.T) {
	w := wildly{rand.New(rand.NewSource(4163)), wildNumbers()}
	for range 10000 {
		g := given{x: w.shop(), plan: w.plan(), want: w.span(), bound: w.number(), text: w.text()}
		g.t = api.DpTaper{Wick: w.number(), Top: w.number(), Foot: w.number()}
		if w.Intn(2) == 0 {
			g.t = anyTaper(w.Rand)
		}
		for range len(g.plan) + w.Intn(3)/2 {
			g.warm = append(g.warm, []int{600, 610, 680, w.number()}[w.Intn(4)])
		}
		ask(t, g)
	}
	ask(t, given{})
	ask(t, given{x: example(), t: api.DpTaper{Wick: math.MinInt, Top: math.MaxInt, Foot: math.MinInt}, want: span(math.MaxInt, math.MinInt), bound: math.MinInt})
}

// P1: the greatest search ends soon.
func TestTheGreatestSearchEnds(t *testing.T) {
	x := full()
	for i := range x.Baths {
		x.Baths[i].Warm = span(0, i)
	}
	var kinds []api.DpDip
	for i := range 5 {
		kinds = append(kinds, api.DpDip{Bath: i, Seconds: 600, Pause: 600 - i, Turned: i%2 == 0})
	}
	start := api.DpTaper{Wick: 0, Top: 50000, Foot: 50000}
	if l, e := dip.Fewest(x, start, kinds, span(math.MaxInt-1, math.MaxInt), math.MaxInt); len(l) != 0 || e != api.ErrDown {
		t.Errorf("Fewest = %v, %d", l, e)
	}
	if l, e := dip.Fewest(x, start, kinds, span(145000, math.MaxInt), math.MaxInt); len(l) != 10 || e != api.OK {
		t.Errorf("Fewest = %v, %d", l, e)
	}
	// Kinds that are all the same: each plan of ten dips makes it.
	same := slices.Repeat(kinds[:1], 5)
	if l, e := dip.Fewest(x, start, same, span(150000, 150000), 0); !slices.Equal(l, slices.Repeat([]int{0}, 10)) || e != api.OK {
		t.Errorf("Fewest = %v, %d", l, e)
	}
}

// R3: nil and empty are the same.
func TestNilAndEmptyAreTheSame(t *testing.T) {
	g := given{x: example(), t: exampleTaper(), want: span(2000, 2000)}
	empty := g
	empty.plan, empty.warm = []api.DpDip{}, []int{}
	if !reflect.DeepEqual(callAll(g), callAll(empty)) {
		t.Error("plan and warmth")
	}
	empty.x.Baths = []api.DpBath{}
	g.x.Baths = nil
	if !reflect.DeepEqual(callAll(g), callAll(empty)) {
		t.Error("baths")
	}
}
