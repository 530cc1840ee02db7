package stub_test

import (
	"math"
	"math/rand"
	"reflect"
	"slices"
	"testing"

	"stearin/api"
	"stearin/stub"
)

// callAll calls all functions.
func callAll(g given) []any {
	part, at, e := stub.Check(g.l)
	weights, f := stub.Weights(g.l, g.readings)
	lost, h := stub.Lost(g.l, g.readings, g.from, g.to)
	cheats, i := stub.Cheats(g.l, g.readings)
	off, j := stub.Off(g.l, g.readings, g.point)
	made, k := stub.Judge(g.s, g.bags)
	best, l := stub.Best(g.s, g.bags)
	// Nil and an empty list are the same.
	weights, cheats, best = append([]api.Span{}, weights...), append([]int{}, cheats...), append([]int{}, best...)
	return []any{part, at, e, weights, f, lost, h, cheats, i, off, j, made, k, best, l}
}

// eachGiven calls a test with random arguments.
func eachGiven(seed int64, times int, test func(r *rand.Rand, g given)) {
	eachLine(seed, times, small(), func(r *rand.Rand, l api.StLine, readings []int) {
		g := given{l: l, readings: readings, from: r.Intn(len(l.Steps)), point: r.Intn(len(readings))}
		g.to = g.from + 1 + r.Intn(len(l.Steps)-g.from)
		g.s, g.bags = anyBags(r, 6, 20, 5)
		test(r, g)
	})
}

// behind is a copy of a list, with one more element behind its end.
func behind[T any](list []T, more T) []T {
	return append(slices.Clone(list), more)[:len(list)]
}

// whole is a list with what is behind its end.
func whole[T any](list []T) []T { return list[:len(list)+1] }

// lists are all lists of some arguments, with what is behind their ends.
func lists(g given) []any { return []any{whole(g.l.Steps), whole(g.readings), whole(g.bags)} }

// roomy is a copy of arguments in which each list has one more element behind its end.
func roomy(g given) given {
	g.l.Steps, g.readings, g.bags = behind(g.l.Steps, step("behind", 77, 78, 79)), behind(g.readings, 77), behind(g.bags, bag(77, 78, 79))
	return g
}

// P8.13: arguments are as they were, also behind their length.
func TestArgumentsAreNotModified(t *testing.T) {
	eachGiven(813, 300, func(r *rand.Rand, g given) {
		own, copied := roomy(g), roomy(g)
		callAll(own)
		if !reflect.DeepEqual(lists(own), lists(copied)) {
			t.Fatalf("%v, not %v", own, g)
		}
	})
}

// P8.13: the same call returns the same again.
func TestNothingIsKept(t *testing.T) {
	eachGiven(8130, 300, func(r *rand.Rand, g given) {
		first := callAll(g)
		callAll(good())
		callAll(given{from: -1, to: -1, point: -1})
		if again := callAll(g); !reflect.DeepEqual(first, again) {
			t.Fatalf("%v; %v", first, again)
		}
	})
}

// fresh reports whether results of a call are not changed if another one is.
func fresh[T comparable](call func() []T, other T) bool {
	first, second := call(), call()
	want := slices.Clone(first)
	for i := range first[:cap(first)] {
		first[:cap(first)][i] = other
	}
	return len(want) > 0 && slices.Equal(second, want) && slices.Equal(call(), want)
}

// P8.13: results are new memory.
func TestResultsAreNewMemory(t *testing.T) {
	cheated := good()
	cheated.readings[3] = 900
	for _, g := range []given{good(), cheated} {
		copied := roomy(g)
		if _, e := stub.Weights(g.l, g.readings); e == api.OK && !fresh(func() []api.Span { l, _ := stub.Weights(g.l, g.readings); return l }, span(77, 78)) {
			t.Error("Weights")
		}
		if _, e := stub.Cheats(g.l, g.readings); e == api.OK && !fresh(func() []int { l, _ := stub.Cheats(g.l, g.readings); return l }, 77) {
			t.Error("Cheats")
		}
		if !fresh(func() []int { l, _ := stub.Best(g.s, g.bags); return l }, 77) {
			t.Error("Best")
		}
		if !reflect.DeepEqual(lists(roomy(g)), lists(copied)) {
			t.Errorf("%v", g)
		}
	}
}

// wildly makes random arguments, also such as are not valid.
type wildly struct {
	*rand.Rand
	numbers []int
}

func (w wildly) number() int {
	if w.Intn(20) > 0 {
		return w.Intn(20)
	}
	return w.numbers[w.Intn(len(w.numbers))]
}

// span is any range, mostly in its order.
func (w wildly) span() api.Span {
	lo := w.number()
	return span(lo, lo+w.number())
}

// about is a number, and sometimes another one near it.
func (w wildly) about(many int) int {
	if w.Intn(20) > 0 {
		return many
	}
	return max(0, many+w.Intn(3)-1)
}

// given are any arguments.
func (w wildly) given() given {
	g := given{from: w.number() - 1, to: w.number(), point: w.number()}
	g.l.Err = w.number()
	steps := 1 + w.Intn(6)
	for i := range w.about(steps) {
		name := string(rune('a' + i))
		if w.Intn(40) == 0 {
			name = []string{"", "a", "B", "a-"}[w.Intn(4)]
		}
		g.l.Steps = append(g.l.Steps, api.StStep{Name: name, Loss: w.span(), Err: w.number()})
	}
	for range w.about(steps + 1) {
		g.readings = append(g.readings, w.number()-1)
	}
	g.s = api.StSort{Kinds: w.number(), Foreign: 10 * w.number()}
	for range w.about(w.Intn(11)) {
		g.bags = append(g.bags, api.StBag{Grams: w.span(), Kinds: 1 + w.number()})
	}
	return g
}

// P8.13, P1: any arguments are accepted. Each call returns, and with an error nothing else.
func TestAnyArgumentsAreAccepted(t *testing.T) {
	w := wildly{rand.New(rand.NewSource(8131)), []int{math.MinInt, math.MinInt + 1, math.MinInt32, -1000000, -2, -1, 0, 100, 255, 256, 257, 1000, 1001, grams - 1, grams, grams + 1, math.MaxInt32, math.MaxInt - 1, math.MaxInt}}
	lines, sorts, cheats := map[api.Errno]int{}, map[api.Errno]int{}, map[api.Errno]int{}
	for range 30000 {
		g := w.given()
		if w.Intn(4) == 0 {
			g.l, g.readings = anyLine(w.Rand, size{6, 10, 10})
		}
		a := ask(t, g)
		lines[a.weights]++
		cheats[a.cheats]++
		sorts[a.best]++
	}
	for _, e := range []api.Errno{api.OK, api.ErrArg, api.ErrLong, api.ErrForm, api.ErrRange, api.ErrDown} {
		if lines[e] < 10 {
			t.Errorf("%d: %v", e, lines)
		}
	}
	for _, e := range []api.Errno{api.OK, api.ErrNone, api.ErrDown} {
		if cheats[e] < 100 {
			t.Errorf("%d: %v", e, cheats)
		}
	}
	for _, e := range []api.Errno{api.OK, api.ErrArg, api.ErrLong, api.ErrRange} {
		if sorts[e] < 10 {
			t.Errorf("%d: %v", e, sorts)
		}
	}
	ask(t, given{})
	for _, n := range []int{math.MinInt, math.MaxInt} {
		ask(t, given{l: example(), readings: []int{n, n, n, n}, from: n, to: n, point: n, s: sort(150), bags: []api.StBag{bag(n, n, n)}})
		ask(t, given{l: example(), readings: read(), from: 0, to: n, point: n, s: sort(n), bags: bags()})
		ask(t, given{l: example(), readings: read(), from: n, to: 3, point: n, s: api.StSort{Kinds: n, Foreign: 1}, bags: bags()})
		ask(t, given{l: line(n, step("a", n, n, n)), readings: []int{1, 2}, to: 1, s: api.StSort{Kinds: n, Foreign: n}})
	}
}

// R3: nil and empty are the same.
func TestNilAndEmptyAreTheSame(t *testing.T) {
	none, empty := given{s: sort(1)}, given{s: sort(1), l: api.StLine{Steps: []api.StStep{}}, readings: []int{}, bags: []api.StBag{}}
	if !reflect.DeepEqual(callAll(none), callAll(empty)) {
		t.Errorf("%v; %v", callAll(none), callAll(empty))
	}
	if a := ask(t, empty); a != ofLine(api.ErrLong) {
		t.Errorf("%v", a)
	}
}
