package wax_test

import (
	"math"
	"math/rand"
	"reflect"
	"slices"
	"testing"

	"stearin/api"
	"stearin/wax"
)

// callAll calls all functions with a table.
func callAll(x api.WxTable, readings []int, a, b int) []any {
	part, at, e := wax.Check(x)
	mixed, f := wax.Mixed(x, readings, a, b)
	sets, g := wax.Sets(x, readings)
	parts, verdict, h := wax.Sold(x, readings, a)
	must, may, i := wax.Within(x, readings)
	least, j := wax.Detect(x, a, b)
	text, k := wax.Write(x)
	return []any{part, at, e, mixed, f, sets, g, parts, verdict, h, must, may, i, least, j, text, k}
}

// P1.15: arguments are as they were, also behind their length, and the same call returns the same again.
func TestArgumentsAreNotModified(t *testing.T) {
	eachCase(151, 300, func(r *rand.Rand, x api.WxTable, readings []int, m mixture) {
		long := append(slices.Clone(readings), 71, 72, 73)
		kinds := append(clone(x).Kinds, api.WxKind{Name: "behind"})
		x.Kinds = kinds[:len(x.Kinds)]
		before := clone(x)
		first := callAll(x, long[:len(readings)], m.a, m.b)
		if !reflect.DeepEqual(x, before) || !slices.Equal(long, append(slices.Clone(readings), 71, 72, 73)) || kinds[len(x.Kinds)].Name != "behind" {
			t.Fatalf("%v, %v", x, long)
		}
		if again := callAll(x, readings, m.a, m.b); !reflect.DeepEqual(first, again) {
			t.Fatalf("%v, %v: %v; %v", x, readings, first, again)
		}
	})
}

// P1.15: a result is not changed if an argument or another result is.
func TestResultsAreNewMemory(t *testing.T) {
	readings := []int{615, 16}
	sets, _ := wax.Sets(example(), readings)
	must, may, _ := wax.Within(example(), readings)
	for _, l := range [][]int{sets, must, may} {
		clear(l[:cap(l)])
	}
	readings[0], readings[1] = 7, 7
	checkSold(t, 0, soldCase{example(), []int{615, 16}, 0, []int{1, 3, 5}, []int{0}, []int{0, 1, 2}, span(637, 1000), api.WxPerhaps, api.OK})

	must, may, _ = wax.Within(example(), []int{600, 9})
	clear(must[:cap(must)])
	if !slices.Equal(may, []int{0, 1}) {
		t.Errorf("may = %v", may)
	}

	x, _ := wax.Read(exampleText)
	y, _ := wax.Read(exampleText)
	x.Kinds[0].Props = append(x.Kinds[0].Props, span(1, 2))
	x.Kinds[1].Props[1], x.Props[0].Error, x.Kinds[2].Name = span(9, 9), 99, "changed"
	if !reflect.DeepEqual(x.Kinds[2].Props, example().Kinds[2].Props) || !reflect.DeepEqual(y, example()) {
		t.Errorf("%v, %v", x, y)
	}
}

// P1.15, P1: any arguments are accepted. Each call returns, and with an error nothing else.
func TestAnyArgumentsAreAccepted(t *testing.T) {
	wild := []int{math.MinInt, math.MinInt + 1, -1000000, -2, -1, 0, 1, 2, 5, 8, 999, 1000, 1001, 10000, 10001, 100000, 100001, math.MaxInt - 1, math.MaxInt}
	r := rand.New(rand.NewSource(152))
	number := func() int { return wild[r.Intn(len(wild))] }
	names := []string{"", "a", "b", "c", "d", "e", "-", "\xff"}
	for range 20000 {
		x := api.WxTable{Purity: number()}
		for range r.Intn(4) {
			x.Props = append(x.Props, api.WxProp{Name: names[r.Intn(len(names))], Error: number()})
		}
		for range r.Intn(4) {
			k := api.WxKind{Name: names[r.Intn(len(names))]}
			for range r.Intn(4) {
				k.Props = append(k.Props, span(number(), number()))
			}
			x.Kinds = append(x.Kinds, k)
		}
		var readings []int
		for range r.Intn(4) {
			readings = append(readings, number())
		}
		callAll(x, readings, number(), number())
	}
	callAll(api.WxTable{}, nil, 0, 0)
	callAll(example(), nil, math.MinInt, math.MaxInt)
	for range 20000 {
		text := make([]byte, r.Intn(60))
		for i := range text {
			text[i] = byte(r.Intn(256))
		}
		if x, e := wax.Read(string(text)); e != api.ErrForm || !reflect.DeepEqual(x, api.WxTable{}) {
			t.Fatalf("%q: Read = %v, %d", text, x, e)
		}
	}
}

// R3: nil and empty are the same.
func TestNilAndEmptyAreTheSame(t *testing.T) {
	x, y := example(), example()
	x.Kinds[1].Props, y.Kinds[1].Props = nil, []api.Span{}
	if !reflect.DeepEqual(callAll(x, nil, 0, 1), callAll(y, []int{}, 0, 1)) {
		t.Error("ranges")
	}
	if !reflect.DeepEqual(callAll(example(), nil, 0, 1), callAll(example(), []int{}, 0, 1)) {
		t.Error("readings")
	}
}
