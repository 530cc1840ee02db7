package kettle_test

import (
	"math"
	"math/rand"
	"reflect"
	"slices"
	"testing"

	"stearin/api"
	"stearin/kettle"
)

// callAll calls all functions.
func callAll(g given) []any {
	part, at, e := kettle.Check(g.k)
	states, f := kettle.Run(g.k, g.s, g.t)
	hottest, h := kettle.Hottest(g.k, g.s, g.which)
	soonest, i := kettle.Soonest(g.k, g.s, g.which, g.warm)
	margin, j := kettle.Margin(g.k, g.s, g.flash)
	setting, k := kettle.Setting(g.k, g.s, g.flash, g.margin)
	who, since, l := kettle.Convict(g.k, g.calls, g.log)
	// Nil and an empty list are the same.
	states, since = append([]api.KtState{}, states...), append([]api.Span{}, since...)
	return []any{part, at, e, states, f, hottest, h, soonest, i, margin, j, setting, k, who, since, l}
}

// eachGiven calls a test with random arguments.
func eachGiven(seed int64, times int, test func(r *rand.Rand, g given)) {
	eachKettle(seed, times, func(r *rand.Rand, k api.KtKettle, s api.KtState, which int) {
		g := given{k: k, s: s, t: anyTruth(r, k, which, r.Intn(30)), which: which, warm: s.Wax + r.Intn(20), flash: 40 + r.Intn(60), margin: r.Intn(20), calls: s.Calls}
		g.log = logOf(course(k, s, g.t), g.t)
		test(r, g)
	})
}

// behind is a copy of a list, with one more element behind its end.
func behind[T any](list []T, more T) []T {
	return append(slices.Clone(list), more)[:len(list)]
}

// P6.14: arguments are as they were, also behind their length.
func TestArgumentsAreNotModified(t *testing.T) {
	lastMinute, lastNote := minute(77, 78, 79), note(77, 78, true, false)
	eachGiven(614, 100, func(r *rand.Rand, g given) {
		own := g
		own.t.Minutes, own.log = behind(g.t.Minutes, lastMinute), behind(g.log, lastNote)
		callAll(own)
		if !slices.Equal(own.t.Minutes[:len(g.t.Minutes)+1], append(slices.Clone(g.t.Minutes), lastMinute)) || !slices.Equal(own.log[:len(g.log)+1], append(slices.Clone(g.log), lastNote)) {
			t.Fatalf("%v, not %v", own, g)
		}
	})
}

// P6.14: the same call returns the same again.
func TestNothingIsKept(t *testing.T) {
	eachGiven(6140, 100, func(r *rand.Rand, g given) {
		first := callAll(g)
		callAll(plain())
		callAll(given{which: -2, flash: -1})
		if again := callAll(g); !reflect.DeepEqual(first, again) {
			t.Fatalf("%v; %v", first, again)
		}
	})
}

// fresh reports whether results of a call are not changed if another one is.
func fresh[T comparable](call func() []T) bool {
	first, second := call(), call()
	want := slices.Clone(first)
	clear(first[:cap(first)])
	return len(want) > 0 && slices.Equal(second, want) && slices.Equal(call(), want)
}

// P6.14: results are new memory.
func TestResultsAreNewMemory(t *testing.T) {
	truth := plain().t
	if !fresh(func() []api.KtState { l, _ := kettle.Run(example(), start(), truth); return l }) {
		t.Error("Run")
	}
	if !slices.Equal(truth.Minutes, plain().t.Minutes) {
		t.Errorf("%v", truth)
	}
	for _, log := range [][]api.KtNote{nil, {note(61, 61, true, true), note(63, 63, true, true)}} {
		// Without notes both spans are zero: so something else is written over them.
		first, second := []api.Span(nil), []api.Span(nil)
		_, first, _ = kettle.Convict(example(), both(true), log)
		_, second, _ = kettle.Convict(example(), both(true), log)
		want := slices.Clone(second)
		for i := range first {
			first[i] = span(77, 78)
		}
		_, third, _ := kettle.Convict(example(), both(true), log)
		if len(want) != 2 || !slices.Equal(second, want) || !slices.Equal(third, want) {
			t.Errorf("Convict: %v, %v, not %v", second, third, want)
		}
	}
}

// wildly makes random arguments, also such as are not valid.
type wildly struct {
	*rand.Rand
	numbers []int
}

func (w wildly) number() int {
	if w.Intn(4) > 0 {
		return w.Intn(12)
	}
	return w.numbers[w.Intn(len(w.numbers))]
}

func (w wildly) calls() [2]bool { return [2]bool{w.Intn(2) == 0, w.Intn(2) == 0} }

func (w wildly) stat() api.KtStat { return stat(w.number(), w.number(), w.number(), w.number()) }

func (w wildly) kettle() api.KtKettle {
	switch w.Intn(4) {
	case 0:
		return example()
	case 1:
		return anyKettle(w.Rand, 0, 12)
	}
	return api.KtKettle{Step: w.number(), Fall: w.number(), Most: w.number(), Loss: span(w.number(), w.number()), Stats: [2]api.KtStat{w.stat(), w.stat()}}
}

func (w wildly) truth() api.KtTruth {
	t := api.KtTruth{Which: w.Intn(4) - 1, From: w.number()}
	for range []int{0, 1, 2, 3, 199, 200, 201}[w.Intn(7)] {
		t.Minutes = append(t.Minutes, minute(w.number(), w.number(), w.number()))
	}
	return t
}

func (w wildly) log() []api.KtNote {
	var log []api.KtNote
	for range []int{0, 1, 2, 3, 199, 200, 201}[w.Intn(7)] {
		log = append(log, api.KtNote{Readings: [2]int{w.number(), w.number()}, Calls: w.calls()})
	}
	return log
}

// P6.14, P1: any arguments are accepted. Each call returns, and with an error nothing else.
func TestAnyArgumentsAreAccepted(t *testing.T) {
	w := wildly{rand.New(rand.NewSource(6141)), []int{math.MinInt, math.MinInt + 1, math.MinInt32, -400, -21, -20, -2, -1, 13, 20, 21, 199, 200, 201, 250, 251, 399, 400, 401, math.MaxInt32, math.MaxInt - 1, math.MaxInt}}
	for range 2000 {
		g := given{k: w.kettle(), t: w.truth(), which: w.Intn(4) - 1, warm: w.number(), flash: w.number(), margin: w.number(), calls: w.calls(), log: w.log()}
		g.s = api.KtState{Wax: w.number(), Jacket: w.Intn(3) * w.number(), Calls: w.calls()}
		if _, _, e := kettle.Check(g.k); e == api.OK && w.Intn(2) == 0 {
			g.t = anyTruth(w.Rand, g.k, w.Intn(3)-1, w.Intn(20))
		}
		ask(t, g)
	}
	ask(t, given{})
	ask(t, given{k: example(), s: api.KtState{Wax: math.MinInt, Jacket: math.MaxInt}, t: api.KtTruth{Which: math.MinInt, From: math.MaxInt}, which: math.MinInt, warm: math.MaxInt, flash: math.MinInt, margin: math.MaxInt})
	ask(t, given{k: example(), s: start(), t: api.KtTruth{Minutes: likeThis(minute(math.MinInt, math.MaxInt, math.MinInt), 200)}, warm: math.MinInt, flash: 400, margin: 400, log: []api.KtNote{note(math.MinInt, math.MaxInt, true, false)}})
}

// P1: as much as there can be to look at ends soon.
func TestTheGreatestSearchEnds(t *testing.T) {
	k := api.KtKettle{Step: 1, Fall: 1, Most: 12, Loss: span(0, 10), Stats: [2]api.KtStat{stat(5, 245, -20, 20), stat(100, 240, -20, 20)}}
	if got, e := kettle.Setting(k, state(0, 0, true, true), 400, 400); got != 0 || e != api.ErrDown {
		t.Errorf("Setting = %d, %d", got, e)
	}
	// At most 259 is read below 240, and then at most 264 below 245; from there on the jacket still has a heat of 12 at most.
	for which, want := range map[int]int{-1: 337, 0: 337, 1: 342} {
		if got, e := kettle.Hottest(k, state(0, 0, true, true), which); got != want || e != api.OK {
			t.Errorf("%d: Hottest = %d, %d, not %d", which, got, e, want)
		}
	}
}

// R3: nil and empty are the same.
func TestNilAndEmptyAreTheSame(t *testing.T) {
	g := plain()
	g.t.Minutes, g.log = nil, nil
	empty := g
	empty.t.Minutes, empty.log = []api.KtMinute{}, []api.KtNote{}
	if !reflect.DeepEqual(callAll(g), callAll(empty)) {
		t.Errorf("%v; %v", callAll(g), callAll(empty))
	}
}
