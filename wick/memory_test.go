package wick_test

import (
	"math"
	"math/rand"
	"reflect"
	"slices"
	"testing"

	"stearin/api"
	"stearin/wick"
)

// callAll calls all functions.
func callAll(s api.WkShop, at int, c api.WkCandle, truth api.WkTruth, grams int) []any {
	part, index, e := wick.Check(s)
	burn, f := wick.At(s, at, c, truth)
	least, most, g := wick.Burn(s, at, c)
	faults, h := wick.Faults(s, at, c)
	suits, i := wick.Suits(s, c)
	thinnest, j := wick.Thinnest(s, c)
	sizes, k := wick.Sizes(s, at, c)
	minutes, l := wick.Minutes(s, at, c, grams)
	// Nil and an empty list are the same.
	faults, suits = append([]int{}, faults...), append([]int{}, suits...)
	return []any{part, index, e, burn, f, least, most, g, faults, h, suits, i, thinnest, j, sizes, k, minutes, l}
}

// behind is a copy of a list, with one more element behind its end.
func behind[T any](list []T, more T) []T {
	return append(slices.Clone(list), more)[:len(list)]
}

// P3.14: arguments are as they were, also behind their length.
func TestArgumentsAreNotModified(t *testing.T) {
	eachCase(314, 1000, 400, func(r *rand.Rand, s api.WkShop, at int, c api.WkCandle) {
		mark, wax := api.WkWick{Name: "behind"}, api.WkWax{Name: "behind"}
		given := s
		given.Wicks, given.Waxes = behind(s.Wicks, mark), behind(s.Waxes, wax)
		callAll(given, at, c, anyTruth(r, s, at, c), 1+r.Intn(1000))
		if !reflect.DeepEqual(given, s) || given.Wicks[:len(s.Wicks)+1][len(s.Wicks)] != mark || given.Waxes[:len(s.Waxes)+1][len(s.Waxes)] != wax {
			t.Fatalf("%v, not %v", given, s)
		}
	})
}

// P3.14: the same call returns the same again.
func TestNothingIsKept(t *testing.T) {
	eachCase(3142, 500, 400, func(r *rand.Rand, s api.WkShop, at int, c api.WkCandle) {
		truth, grams := anyTruth(r, s, at, c), 1+r.Intn(1000)
		first := callAll(s, at, c, truth, grams)
		callAll(example(), 1, exampleCandle(), api.WkTruth{}, 100)
		callAll(api.WkShop{}, -1, api.WkCandle{Wax: -1}, api.WkTruth{}, -1)
		if again := callAll(clone(s), at, c, truth, grams); !reflect.DeepEqual(first, again) {
			t.Fatalf("%v; %v", first, again)
		}
	})
}

// P3.14: a result is not changed if another one is.
func TestResultsAreNewMemory(t *testing.T) {
	fat := []int{api.WkSmokes, api.WkRuns}
	first, _ := wick.Faults(example(), 2, exampleCandle())
	second, _ := wick.Faults(example(), 2, exampleCandle())
	clear(first[:cap(first)])
	third, _ := wick.Faults(example(), 2, exampleCandle())
	if !slices.Equal(second, fat) || !slices.Equal(third, fat) {
		t.Errorf("Faults = %v, %v", second, third)
	}
	s := bounded(example(), span(0, 2000), span(0, 2000))
	first, _ = wick.Suits(s, exampleCandle())
	second, _ = wick.Suits(s, exampleCandle())
	clear(first[:cap(first)])
	third, _ = wick.Suits(s, exampleCandle())
	if all := []int{0, 1, 2}; !slices.Equal(second, all) || !slices.Equal(third, all) {
		t.Errorf("Suits = %v, %v", second, third)
	}
}

// wildNumbers are numbers at all limits, and far beyond them.
func wildNumbers() []int {
	return []int{math.MinInt, math.MinInt + 1, math.MinInt32, -1000000, -91, -90, -2, -1, 0, 1, 2, 5, 6, 11, 12, 13, 50, 51, 90, 91, 100, 101, 300, 301, 1000, 1001, 2000, 2001, 100000, 100001, math.MaxInt32, math.MaxInt - 1, math.MaxInt}
}

// P3.14, P1: any arguments are accepted. Each call returns, and with an error nothing else.
func TestAnyArgumentsAreAccepted(t *testing.T) {
	wild, names := wildNumbers(), []string{"", "a", "b", "c", "d", "e", "-", "\xff"}
	r := rand.New(rand.NewSource(3143))
	number := func() int {
		if r.Intn(3) > 0 {
			return r.Intn(51)
		}
		return wild[r.Intn(len(wild))]
	}
	wildSpan := func() api.Span { return span(number(), number()) }
	for range 30000 {
		var s api.WkShop
		for range r.Intn(4) {
			s.Wicks = append(s.Wicks, api.WkWick{Name: names[r.Intn(len(names))], Threads: number(), Pull: wildSpan()})
		}
		for range r.Intn(3) {
			s.Waxes = append(s.Waxes, api.WkWax{Name: names[r.Intn(len(names))], Flow: wildSpan(), Rise: wildSpan(), Spread: wildSpan(), Chill: number()})
		}
		s.Flame, s.Pool = wildSpan(), wildSpan()
		switch r.Intn(3) {
		case 0:
			s = example()
		case 1:
			s = full()
		}
		c := api.WkCandle{Wax: number(), Diameter: number(), Draught: number(), Cold: wildSpan()}
		if r.Intn(2) == 0 {
			c.Wax = r.Intn(2)
		}
		at := r.Intn(3)
		if r.Intn(3) == 0 {
			at = number()
		}
		ask(t, s, at, c, api.WkTruth{Pull: number(), Flow: number(), Rise: number(), Spread: number(), Draught: number(), Cold: number()}, number())
	}
	ask(t, api.WkShop{}, 0, api.WkCandle{}, api.WkTruth{}, 0)
	ask(t, example(), math.MinInt, api.WkCandle{Wax: math.MaxInt}, api.WkTruth{}, math.MinInt)
}

// R3: nil and empty are the same.
func TestNilAndEmptyAreTheSame(t *testing.T) {
	x, y := example(), example()
	x.Waxes, y.Waxes = nil, []api.WkWax{}
	if !reflect.DeepEqual(callAll(x, 0, exampleCandle(), api.WkTruth{}, 1), callAll(y, 0, exampleCandle(), api.WkTruth{}, 1)) {
		t.Error("waxes")
	}
	x, y = example(), example()
	x.Wicks, y.Wicks = nil, []api.WkWick{}
	if !reflect.DeepEqual(callAll(x, 0, exampleCandle(), api.WkTruth{}, 1), callAll(y, 0, exampleCandle(), api.WkTruth{}, 1)) {
		t.Error("wicks")
	}
}
