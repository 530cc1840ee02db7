package stub_test

import (
	"slices"
	"testing"

	"stearin/api"
	"stearin/stub"
)

// P8.2: the example of the chapter.
func TestWeightsExample(t *testing.T) {
	got, e := stub.Weights(example(), read())
	want := []api.Span{span(950, 1050), span(850, 990), span(800, 840), span(795, 815)}
	if !slices.Equal(got, want) || e != api.OK {
		t.Errorf("Weights = %v, %d", got, e)
	}
}

// P8.2: the examples of the chapter.
func TestLostExamples(t *testing.T) {
	for _, c := range []struct {
		from, to int
		want     api.Span
	}{{0, 3, span(135, 255)}, {1, 2, span(50, 150)}} {
		if got, e := stub.Lost(example(), read(), c.from, c.to); got != c.want || e != api.OK {
			t.Errorf("Lost from %d to %d = %v, %d, not %v", c.from, c.to, got, e, c.want)
		}
	}
}

// P8.3: the examples of the chapter.
func TestCheatsExamples(t *testing.T) {
	for i, c := range []struct {
		readings, want []int
		e              api.Errno
	}{
		{[]int{1000, none, 820, 900}, []int{2, 3}, api.OK},
		{[]int{1300, none, 820, 805}, []int{0}, api.OK},
		{read(), nil, api.ErrNone},
	} {
		if got, e := stub.Cheats(example(), c.readings); !slices.Equal(got, c.want) || e != c.e {
			t.Errorf("%d: Cheats = %v, %d, not %v, %d", i, got, e, c.want, c.e)
		}
	}
}

// P8.3: the example of the chapter; without the reading the sack has from 850 to 1090 grams.
func TestOffExample(t *testing.T) {
	readings := []int{1300, none, 820, 805}
	if got, e := stub.Off(example(), readings, 0); got != span(210, 450) || e != api.OK {
		t.Errorf("Off = %v, %d", got, e)
	}
	readings[0] = none
	if got, e := stub.Weights(example(), readings); e != api.OK || got[0] != span(850, 1090) {
		t.Errorf("Weights = %v, %d", got, e)
	}
}

// P8.4: the examples of the chapter.
func TestJudgeExamples(t *testing.T) {
	a, b, c := bags()[0], bags()[1], bags()[2]
	for i, x := range []struct {
		foreign int
		bags    []api.StBag
		want    int
	}{
		{150, []api.StBag{a, b}, api.StSure},
		{150, []api.StBag{a, c}, api.StNever},
		{150, []api.StBag{c}, api.StNever},
		{100, []api.StBag{a, b}, api.StPerhaps},
		{100, []api.StBag{a}, api.StSure},
	} {
		if got, e := stub.Judge(sort(x.foreign), x.bags); got != x.want || e != api.OK {
			t.Errorf("%d: Judge = %d, %d, not %d", i, got, e, x.want)
		}
	}
}

// P8.4: the examples of the chapter.
func TestBestExamples(t *testing.T) {
	for foreign, want := range map[int][]int{150: {0, 1}, 100: {0}} {
		if got, e := stub.Best(sort(foreign), bags()); !slices.Equal(got, want) || e != api.OK {
			t.Errorf("%d: Best = %v, %d, not %v", foreign, got, e, want)
		}
	}
}

// P8.2: where nothing is weighed, the wax is as heavy as the losses allow it.
func TestWeightsWithoutReadings(t *testing.T) {
	for i, c := range []struct {
		l    api.StLine
		want []api.Span
	}{
		{example(), []api.Span{span(50, grams), span(50, grams), span(0, grams-50), span(0, grams-50)}},
		{full(), slices.Repeat([]api.Span{span(0, grams)}, 7)},
		{line(0, step("a", grams, grams, 0)), []api.Span{span(grams, grams), span(0, 0)}},
		{line(0, step("a", 1, 2, 0)), []api.Span{span(1, grams), span(0, grams-1)}},
	} {
		got, e := stub.Weights(c.l, unread(len(c.want)))
		if !slices.Equal(got, c.want) || e != api.OK {
			t.Errorf("%d: Weights = %v, %d, not %v", i, got, e, c.want)
		}
	}
}

// P8.2: scales are wrong by what they can be wrong at their own point.
func TestEachPointHasScalesOfItsOwn(t *testing.T) {
	l := line(10, step("a", 0, 1000, 20), step("b", 0, 1000, 30), step("c", 0, 1000, 40))
	for point, wrong := range []int{10, 20, 30, 40} {
		readings := unread(4)
		readings[point] = 5000
		got, e := stub.Weights(l, readings)
		if e != api.OK || got[point] != span(5000-wrong, 5000+wrong) {
			t.Errorf("%d: Weights = %v, %d", point, got, e)
		}
	}
}

// P8.2: no weight is below 0, or above MaxStGrams, however wrong the scales are.
func TestWeightsAreBounded(t *testing.T) {
	l := line(100, step("a", 10, 20, 100))
	for i, c := range []struct {
		readings []int
		want     []api.Span
		lost     api.Span
	}{
		{[]int{0, none}, []api.Span{span(10, 100), span(0, 90)}, span(10, 20)},
		{[]int{none, 0}, []api.Span{span(10, 120), span(0, 100)}, span(10, 20)},
		{[]int{grams, none}, []api.Span{span(grams-100, grams), span(grams-120, grams-10)}, span(10, 20)},
		{[]int{none, grams}, []api.Span{span(grams-90, grams), span(grams-100, grams-10)}, span(10, 20)},
		{[]int{grams, grams}, []api.Span{span(grams-90, grams), span(grams-100, grams-10)}, span(10, 20)},
		{[]int{0, 200}, []api.Span{}, api.Span{}},
		{[]int{215, 0}, []api.Span{span(115, 120), span(95, 100)}, span(15, 20)},
		{[]int{220, 0}, []api.Span{span(120, 120), span(100, 100)}, span(20, 20)},
	} {
		got, e := stub.Weights(l, c.readings)
		lost, f := stub.Lost(l, c.readings, 0, 1)
		if !slices.Equal(got, c.want) || lost != c.lost || e != f || (e == api.OK) != (len(c.want) > 0) || e != api.OK && e != api.ErrDown {
			t.Errorf("%d: %v, %d; %v, %d", i, got, e, lost, f)
		}
	}
}

// P8.2: what is read before and behind two points tells how much was lost between them.
func TestLostIsToldByReadingsAround(t *testing.T) {
	l := line(0, step("a", 1, 5, 0), step("b", 0, 10, 0), step("c", 2, 3, 0))
	readings := []int{100, none, none, 90}
	for _, c := range []struct {
		from, to int
		want     api.Span
	}{{0, 1, span(1, 5)}, {1, 2, span(2, 7)}, {2, 3, span(2, 3)}, {0, 2, span(7, 8)}, {1, 3, span(5, 9)}, {0, 3, span(10, 10)}} {
		if got, e := stub.Lost(l, readings, c.from, c.to); got != c.want || e != api.OK {
			t.Errorf("Lost from %d to %d = %v, %d, not %v", c.from, c.to, got, e, c.want)
		}
	}
	// The weights alone do not tell it: both are known within 10, and what is lost is known at once.
	l = line(5, step("a", 3, 3, 5))
	if got, e := stub.Lost(l, []int{100, none}, 0, 1); got != span(3, 3) || e != api.OK {
		t.Errorf("Lost = %v, %d", got, e)
	}
}

// P8.3: which readings leave a truth if they are left out.
func TestCheats(t *testing.T) {
	exact := line(0, step("a", 0, 0, 0), step("b", 0, 0, 0))
	for i, c := range []struct {
		l              api.StLine
		readings, want []int
		e              api.Errno
	}{
		{exact, []int{5, 5, 5}, nil, api.ErrNone},
		{exact, []int{4, 5, 5}, []int{0}, api.OK},
		{exact, []int{5, 4, 5}, []int{1}, api.OK},
		{exact, []int{5, 5, 4}, []int{2}, api.OK},
		{exact, []int{5, none, 4}, []int{0, 2}, api.OK},
		{exact, []int{none, 5, 4}, []int{1, 2}, api.OK},
		{exact, []int{5, 4, none}, []int{0, 1}, api.OK},
		{exact, []int{5, 4, 3}, nil, api.ErrDown},
		{exact, []int{5, none, none}, nil, api.ErrNone},
		{exact, unread(3), nil, api.ErrNone},
		// One reading alone cannot be true.
		{line(0, step("a", 10, 10, 0)), []int{9, none}, []int{0}, api.OK},
		{line(0, step("a", 10, 10, 0)), []int{none, grams - 9}, []int{1}, api.OK},
		{line(0, step("a", 10, 10, 0)), []int{9, 0}, []int{0}, api.OK},
		{line(0, step("a", 10, 10, 0)), []int{9, grams}, nil, api.ErrDown},
		// Not just one reading beside another one tells it, but all of them.
		{line(0, step("a", 0, 1, 0), step("b", 0, 1, 0), step("c", 0, 1, 0)), []int{10, 9, 9, 7}, []int{2, 3}, api.OK},
		{line(0, step("a", 0, 1, 0), step("b", 0, 1, 0), step("c", 0, 1, 0)), []int{10, 9, 7, 7}, []int{2}, api.OK},
		{line(0, step("a", 0, 1, 0), step("b", 0, 1, 0), step("c", 0, 1, 0)), []int{10, 9, 8, 6}, []int{3}, api.OK},
		{line(0, step("a", 0, 3, 0), step("b", 0, 1, 0), step("c", 0, 1, 0)), []int{10, none, none, 4}, []int{0, 3}, api.OK},
		// There is no truth without readings either.
		{line(0, step("a", 600000, 600000, 0), step("b", 600000, 600000, 0)), unread(3), nil, api.ErrDown},
		{line(0, step("a", 600000, 600000, 0), step("b", 600000, 600000, 0)), []int{grams, none, 0}, nil, api.ErrDown},
	} {
		if got, e := stub.Cheats(c.l, c.readings); !slices.Equal(got, c.want) || e != c.e {
			t.Errorf("%d: Cheats = %v, %d, not %v, %d", i, got, e, c.want, c.e)
		}
	}
}

// P8.3: a reading is held against the others, whatever it is itself, and whether they can be true with it or not.
func TestOff(t *testing.T) {
	l := line(1, step("a", 2, 4, 3), step("b", 0, 0, 5))
	for i, c := range []struct {
		readings []int
		point    int
		want     api.Span
		e        api.Errno
	}{
		{[]int{20, 17, none}, 0, span(-4, 4), api.OK},
		{[]int{20, 17, none}, 1, span(-2, 2), api.OK},
		{[]int{20, none, 17}, 2, span(-2, 2), api.OK},
		{[]int{50, 17, none}, 0, span(26, 34), api.OK},
		{[]int{0, 17, none}, 0, span(-24, -16), api.OK},
		{[]int{0, 17, none}, 1, api.Span{}, api.ErrDown},
		{[]int{20, 17, 90}, 2, span(71, 75), api.OK},
		{[]int{20, 17, 90}, 0, api.Span{}, api.ErrDown},
		{[]int{20, 17, 90}, 1, api.Span{}, api.ErrDown},
		{[]int{5, none, none}, 0, span(5-grams, 3), api.OK},
		{[]int{none, none, grams}, 2, span(2, grams), api.OK},
	} {
		if got, e := stub.Off(l, c.readings, c.point); got != c.want || e != c.e {
			t.Errorf("%d: Off = %v, %d, not %v, %d", i, got, e, c.want, c.e)
		}
	}
}

// P8.4: bags at the bound, no bags, and bags in which there may be nothing.
func TestJudge(t *testing.T) {
	for i, c := range []struct {
		s    api.StSort
		bags []api.StBag
		want int
	}{
		{sort(0), nil, api.StSure},
		{sort(1000), nil, api.StSure},
		{sort(0), []api.StBag{bag(0, 0, 2)}, api.StSure},
		{sort(0), []api.StBag{bag(0, 1, 2)}, api.StPerhaps},
		{sort(0), []api.StBag{bag(1, 1, 2)}, api.StNever},
		{sort(0), []api.StBag{bag(1, 1, 3)}, api.StPerhaps},
		{sort(0), []api.StBag{bag(0, grams, 1)}, api.StSure},
		{sort(999), []api.StBag{bag(1, 1, 2)}, api.StNever},
		{sort(1000), []api.StBag{bag(1, 1, 2)}, api.StSure},
		{sort(999), []api.StBag{bag(999, 999, 2), bag(1, 1, 1)}, api.StSure},
		{sort(999), []api.StBag{bag(1000, 1000, 2), bag(1, 1, 1)}, api.StNever},
		{sort(100), []api.StBag{bag(100, 100, 2), bag(900, 900, 1)}, api.StSure},
		{sort(100), []api.StBag{bag(100, 101, 2), bag(900, 900, 1)}, api.StPerhaps},
		{sort(100), []api.StBag{bag(100, 100, 2), bag(899, 900, 1)}, api.StPerhaps},
		{sort(100), []api.StBag{bag(101, 200, 2), bag(800, 900, 1)}, api.StNever},
		{sort(100), []api.StBag{bag(100, 200, 2), bag(800, 900, 1)}, api.StPerhaps},
		{sort(100), []api.StBag{bag(100, 100, 6), bag(900, 900, 1)}, api.StSure},
		{sort(100), []api.StBag{bag(101, 101, 6), bag(900, 900, 1)}, api.StNever},
		{sort(100), []api.StBag{bag(101, 101, 7), bag(900, 900, 1)}, api.StPerhaps},
		{api.StSort{Kinds: 7, Foreign: 100}, []api.StBag{bag(101, 101, 7), bag(900, 900, 1)}, api.StSure},
		{api.StSort{Kinds: 128, Foreign: 0}, []api.StBag{bag(1, 2, 128)}, api.StSure},
		{api.StSort{Kinds: 127, Foreign: 0}, []api.StBag{bag(1, 2, 128)}, api.StNever},
		{api.StSort{Kinds: 254, Foreign: 999}, []api.StBag{bag(1, 2, 255)}, api.StPerhaps},
		// As much as there can be.
		{sort(500), slices.Concat(slices.Repeat([]api.StBag{bag(grams, grams, 1)}, 5), slices.Repeat([]api.StBag{bag(grams, grams, 2)}, 5)), api.StSure},
		{sort(499), slices.Concat(slices.Repeat([]api.StBag{bag(grams, grams, 1)}, 5), slices.Repeat([]api.StBag{bag(grams, grams, 2)}, 5)), api.StNever},
		{sort(500), slices.Concat(slices.Repeat([]api.StBag{bag(grams-1, grams, 1)}, 5), slices.Repeat([]api.StBag{bag(grams, grams, 2)}, 5)), api.StPerhaps},
	} {
		if got, e := stub.Judge(c.s, c.bags); got != c.want || e != api.OK {
			t.Errorf("%d: Judge = %d, %d, not %d", i, got, e, c.want)
		}
	}
}

// P8.4: the greatest weight at least, then the fewest bags, then the first ones.
func TestBest(t *testing.T) {
	for i, c := range []struct {
		s    api.StSort
		bags []api.StBag
		want []int
	}{
		{sort(0), nil, nil},
		{sort(0), []api.StBag{bag(5, 5, 2)}, nil},
		{sort(1000), []api.StBag{bag(5, 5, 2)}, []int{0}},
		// Where there may be nothing in a bag, it makes nothing heavier.
		{sort(0), []api.StBag{bag(0, 9, 1)}, nil},
		{sort(0), []api.StBag{bag(0, 9, 1), bag(1, 1, 1), bag(0, 0, 1)}, []int{1}},
		// It is the weight at least that counts.
		{sort(0), []api.StBag{bag(4, 9, 1), bag(5, 5, 1), bag(1, grams, 2)}, []int{0, 1}},
		{sort(500), []api.StBag{bag(10, 10, 2), bag(10, 10, 2), bag(9, 30, 1), bag(10, 10, 1)}, []int{0, 2, 3}},
		// Fewer bags are better than the first ones.
		{sort(500), []api.StBag{bag(10, 10, 1), bag(5, 5, 2), bag(5, 5, 2), bag(10, 10, 2)}, []int{0, 3}},
		{sort(500), []api.StBag{bag(5, 5, 2), bag(5, 5, 2), bag(10, 10, 1), bag(10, 10, 2)}, []int{2, 3}},
		// The first ones of as many.
		{sort(500), []api.StBag{bag(10, 10, 2), bag(10, 10, 2), bag(10, 10, 1)}, []int{0, 2}},
		{sort(500), []api.StBag{bag(10, 10, 1), bag(10, 10, 2), bag(10, 10, 2)}, []int{0, 1}},
		{sort(500), []api.StBag{bag(4, 4, 2), bag(6, 6, 2), bag(6, 6, 2), bag(4, 4, 2), bag(10, 10, 1)}, []int{0, 1, 4}},
		{sort(500), []api.StBag{bag(5, 5, 2), bag(3, 3, 2), bag(7, 7, 2), bag(5, 5, 2), bag(10, 10, 1)}, []int{0, 3, 4}},
		{sort(500), []api.StBag{bag(3, 3, 2), bag(5, 5, 2), bag(5, 5, 2), bag(7, 7, 2), bag(10, 10, 1)}, []int{0, 3, 4}},
		// What is perhaps of the sort is not surely so.
		{sort(0), []api.StBag{bag(900, 900, 3), bag(1, 1, 1)}, []int{1}},
		// A foreign bag that is too heavy alone may be light enough with all others.
		{sort(100), []api.StBag{bag(100, 100, 2), bag(450, 450, 1), bag(450, 450, 1)}, []int{0, 1, 2}},
		{sort(100), []api.StBag{bag(101, 101, 2), bag(450, 450, 1), bag(450, 450, 1)}, []int{1, 2}},
		{sort(1000), slices.Repeat([]api.StBag{bag(grams, grams, 255)}, 10), []int{0, 1, 2, 3, 4, 5, 6, 7, 8, 9}},
	} {
		if got, e := stub.Best(c.s, c.bags); !slices.Equal(got, c.want) || e != api.OK {
			t.Errorf("%d: Best = %v, %d, not %v", i, got, e, c.want)
		}
	}
}
