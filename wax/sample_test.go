package wax_test

import (
	"slices"
	"testing"

	"stearin/api"
	"stearin/wax"
)

// P1.2, and the examples of the chapter.
func TestMixedReturnsTheParts(t *testing.T) {
	for i, c := range []struct {
		t        api.WxTable
		readings []int
		a, b     int
		want     api.Span
		e        api.Errno
	}{
		{example(), []int{615, 16}, 0, 1, span(637, 1000), api.OK},
		{example(), []int{615, 16}, 1, 0, span(0, 363), api.OK},
		{example(), []int{615, 16}, 0, 2, span(834, 1000), api.OK},
		{example(), []int{615, 16}, 1, 2, span(0, 0), api.ErrDown},
		// What was not read bounds nothing.
		{example(), []int{615, -1}, 0, 1, span(500, 1000), api.OK},
		{example(), []int{-1, 16}, 0, 1, span(637, 1000), api.OK},
		{example(), []int{-1, -1}, 1, 2, span(0, 1000), api.OK},
		// A kind alone counts, at both ends, and so does the error just up to its end.
		{example(), []int{535, 0}, 0, 1, span(0, 0), api.OK},
		{example(), []int{534, 0}, 0, 1, span(0, 0), api.ErrDown},
		{example(), []int{645, 24}, 0, 1, span(1000, 1000), api.OK},
		{example(), []int{646, 24}, 0, 1, span(0, 0), api.ErrDown},
		{example(), []int{645, 25}, 0, 1, span(0, 0), api.ErrDown},
		// Without errors the mean is just the reading, if parts that are integers make it.
		{single(0, span(100, 100), span(300, 300)), []int{150}, 0, 1, span(750, 750), api.OK},
		{single(0, span(100, 100), span(300, 300)), []int{100}, 0, 1, span(1000, 1000), api.OK},
		{single(0, span(100, 100), span(300, 300)), []int{300}, 0, 1, span(0, 0), api.OK},
		{single(0, span(100, 100), span(300, 300)), []int{99}, 0, 1, span(0, 0), api.ErrDown},
		{single(0, span(100, 100), span(300, 300)), []int{301}, 0, 1, span(0, 0), api.ErrDown},
		{single(0, span(100, 100), span(103, 103)), []int{101}, 0, 1, span(0, 0), api.ErrDown},
		{single(0, span(7, 7), span(7, 7)), []int{7}, 0, 1, span(0, 1000), api.OK},
		{single(0, span(7, 7), span(7, 7)), []int{8}, 0, 1, span(0, 0), api.ErrDown},
		{single(0, span(7, 7), span(7, 7)), []int{6}, 0, 1, span(0, 0), api.ErrDown},
		{single(0, span(0, 0), span(100000, 100000)), []int{99900}, 0, 1, span(1, 1), api.OK},
		{single(0, span(0, 0), span(100000, 100000)), []int{100}, 0, 1, span(999, 999), api.OK},
		// Both kinds widen the mean: from 100 x to 200 x, and 400 to 500 of the others.
		{single(0, span(100, 200), span(400, 500)), []int{300}, 0, 1, span(334, 666), api.OK},
		// The greatest numbers that there can be.
		{single(10000, span(0, 0), span(100000, 100000)), []int{100000}, 0, 1, span(0, 100), api.OK},
		{single(10000, span(0, 0), span(100000, 100000)), []int{0}, 0, 1, span(900, 1000), api.OK},
		// Each property alone can be explained, but both of them cannot.
		{example(), []int{600, 9}, 0, 2, span(0, 0), api.ErrDown},
	} {
		if got, e := wax.Mixed(c.t, c.readings, c.a, c.b); got != c.want || e != c.e {
			t.Errorf("%d: Mixed = %v, %d, not %v, %d", i, got, e, c.want, c.e)
		}
	}
}

// soldCase is what Sets, Within and Sold return of a sample; e is the error of the last two.
type soldCase struct {
	t               api.WxTable
	readings        []int
	kind            int
	sets, must, may []int
	parts           api.Span
	verdict         int
	e               api.Errno
}

// P1.3 and P1.4, and the examples of the chapter.
func TestSetsWithinAndSold(t *testing.T) {
	three := single(0, span(100, 100), span(300, 300), span(200, 200))
	for i, c := range []soldCase{
		{example(), []int{615, 16}, 0, []int{1, 3, 5}, []int{0}, []int{0, 1, 2}, span(637, 1000), api.WxPerhaps, api.OK},
		{example(), []int{643, 16}, 0, []int{1, 3, 5}, []int{0}, []int{0, 1, 2}, span(967, 1000), api.WxPure, api.OK},
		{example(), []int{643, 16}, 1, []int{1, 3, 5}, []int{0}, []int{0, 1, 2}, span(0, 33), api.WxImpure, api.OK},
		{example(), []int{600, 9}, 0, []int{3}, []int{0, 1}, []int{0, 1}, span(319, 647), api.WxImpure, api.OK},
		{example(), []int{600, 9}, 2, []int{3}, []int{0, 1}, []int{0, 1}, span(0, 0), api.WxImpure, api.OK},
		{example(), []int{-1, -1}, 2, []int{1, 2, 3, 4, 5, 6}, nil, []int{0, 1, 2}, span(0, 1000), api.WxPerhaps, api.OK},
		{example(), []int{700, -1}, 0, nil, nil, nil, span(0, 0), 0, api.ErrDown},
		// The third kind is just between the others.
		{three, []int{200}, 2, []int{3, 4}, nil, []int{0, 1, 2}, span(0, 1000), api.WxPerhaps, api.OK},
		{three, []int{200}, 0, []int{3, 4}, nil, []int{0, 1, 2}, span(0, 500), api.WxImpure, api.OK},
		{three, []int{100}, 0, []int{1}, []int{0}, []int{0}, span(1000, 1000), api.WxPure, api.OK},
		{three, []int{150}, 0, []int{3, 5}, []int{0}, []int{0, 1, 2}, span(500, 750), api.WxImpure, api.OK},
		{three, []int{150}, 1, []int{3, 5}, []int{0}, []int{0, 1, 2}, span(0, 250), api.WxImpure, api.OK},
		{three, []int{250}, 2, []int{3, 6}, []int{1}, []int{0, 1, 2}, span(0, 500), api.WxImpure, api.OK},
		// A mixture of two kinds has at least one part of each; the kind alone is no such mixture.
		{single(0, span(0, 0), span(1000, 1000)), []int{0}, 1, []int{1}, []int{0}, []int{0}, span(0, 0), api.WxImpure, api.OK},
		{single(1, span(0, 0), span(1000, 1000)), []int{0}, 1, []int{1, 3}, []int{0}, []int{0, 1}, span(0, 1), api.WxImpure, api.OK},
		{single(0, span(0, 0), span(1000, 1000)), []int{999}, 1, []int{3}, []int{0, 1}, []int{0, 1}, span(999, 999), api.WxPure, api.OK},
		// A table of one kind.
		{single(0, span(5, 5)), []int{5}, 0, []int{1}, []int{0}, []int{0}, span(1000, 1000), api.WxPure, api.OK},
		{single(0, span(5, 5)), []int{6}, 0, nil, nil, nil, span(0, 0), 0, api.ErrDown},
		// Two kinds that nothing tells apart.
		{single(0, span(5, 5), span(5, 5)), []int{5}, 0, []int{1, 2, 3}, nil, []int{0, 1}, span(0, 1000), api.WxPerhaps, api.OK},
	} {
		checkSold(t, i, c)
	}
}

// checkSold compares what the three functions return.
func checkSold(t *testing.T, i int, c soldCase) {
	if sets, e := wax.Sets(c.t, c.readings); !slices.Equal(sets, c.sets) || e != api.OK {
		t.Errorf("%d: Sets = %v, %d", i, sets, e)
	}
	if must, may, e := wax.Within(c.t, c.readings); !slices.Equal(must, c.must) || !slices.Equal(may, c.may) || e != c.e {
		t.Errorf("%d: Within = %v, %v, %d", i, must, may, e)
	}
	if parts, verdict, e := wax.Sold(c.t, c.readings, c.kind); parts != c.parts || verdict != c.verdict || e != c.e {
		t.Errorf("%d: Sold = %v, %d, %d", i, parts, verdict, e)
	}
}

// P1.3: all eight kinds are told apart, and come in ascending order.
func TestSetsOfManyKinds(t *testing.T) {
	x := single(10)
	for i := range 8 {
		x.Kinds = append(x.Kinds, api.WxKind{Name: string(rune('a' + i)), Props: []api.Span{span(1000*i, 1000*i)}})
	}
	if sets, e := wax.Sets(x, []int{6500}); !slices.Equal(sets, []int{129, 130, 132, 136, 144, 160, 192}) || e != api.OK {
		t.Errorf("Sets = %v, %d", sets, e)
	}
	must, may, e := wax.Within(x, []int{6500})
	if !slices.Equal(must, []int{7}) || !slices.Equal(may, []int{0, 1, 2, 3, 4, 5, 6, 7}) || e != api.OK {
		t.Errorf("Within = %v, %v, %d", must, may, e)
	}
	sets, e := wax.Sets(x, []int{-1})
	if len(sets) != 8+28 || !slices.IsSorted(sets) || e != api.OK {
		t.Errorf("Sets = %v, %d", sets, e)
	}
}

// P1.4: the verdict changes just at Purity.
func TestTheVerdictAtPurity(t *testing.T) {
	x := single(50, span(1000, 1000), span(0, 0))
	for _, c := range []struct{ purity, want int }{{1, api.WxPure}, {799, api.WxPure}, {800, api.WxPure}, {801, api.WxPerhaps}, {900, api.WxPerhaps}, {901, api.WxImpure}, {1000, api.WxImpure}} {
		x.Purity = c.purity
		if parts, verdict, e := wax.Sold(x, []int{850}, 0); parts != span(800, 900) || verdict != c.want || e != api.OK {
			t.Errorf("%d: Sold = %v, %d, %d", c.purity, parts, verdict, e)
		}
	}
}

// P1.5, and the examples of the chapter.
func TestDetectReturnsTheLeastPart(t *testing.T) {
	wide := example()
	wide.Kinds[1].Props = []api.Span{span(600, 660), span(0, 22)}
	for i, c := range []struct {
		t           api.WxTable
		pure, other int
		want        int
		e           api.Errno
	}{
		{example(), 0, 1, 410, api.OK},
		{example(), 1, 0, 236, api.OK},
		{example(), 0, 2, 167, api.OK},
		{wide, 0, 1, 0, api.ErrDown},
		// Above, below, and inside of the range of the pure kind.
		{single(0, span(100, 100), span(300, 300)), 0, 1, 1, api.OK},
		{single(0, span(100, 100), span(300, 300)), 1, 0, 1, api.OK},
		{single(0, span(100, 100), span(100, 100)), 0, 1, 0, api.ErrDown},
		{single(0, span(100, 200), span(150, 160)), 0, 1, 0, api.ErrDown},
		// Both can be read in common up to twice the error, which itself is common.
		{single(2, span(100, 100), span(104, 104)), 0, 1, 0, api.ErrDown},
		{single(2, span(100, 100), span(105, 105)), 0, 1, 801, api.OK},
		{single(2, span(105, 105), span(100, 100)), 0, 1, 801, api.OK},
		{single(2, span(100, 100), span(108, 108)), 0, 1, 501, api.OK},
		// The other kind alone is the last one that is asked for.
		{single(0, span(0, 998), span(999, 999)), 0, 1, 999, api.OK},
		{single(0, span(0, 1000), span(1001, 1001)), 0, 1, 1000, api.OK},
		{single(0, span(0, 1000), span(1000, 1000)), 0, 1, 0, api.ErrDown},
		// Readings beyond 0 and MaxWxValue count, and such that are no integers.
		{single(10000, span(0, 0), span(20001, 20001)), 0, 1, 1000, api.OK},
		{single(10000, span(100000, 100000), span(80001, 80001)), 0, 1, 0, api.ErrDown},
		{single(10000, span(100000, 100000), span(0, 0)), 0, 1, 201, api.OK},
		{single(0, span(0, 1), span(2, 2)), 0, 1, 501, api.OK},
	} {
		if n, e := wax.Detect(c.t, c.pure, c.other); n != c.want || e != c.e {
			t.Errorf("%d: Detect = %d, %d, not %d, %d", i, n, e, c.want, c.e)
		}
	}
}

// P1.5: the property that finds the least part decides, wherever it is, and Purity does not matter.
func TestDetectTakesTheBestProperty(t *testing.T) {
	for _, purity := range []int{1, 950, 1000} {
		x, y := example(), example()
		x.Purity, y.Purity = purity, purity
		slices.Reverse(y.Props)
		for i := range y.Kinds {
			slices.Reverse(y.Kinds[i].Props)
		}
		n, e := wax.Detect(x, 0, 1)
		m, f := wax.Detect(y, 0, 1)
		if n != 410 || m != 410 || e != api.OK || f != api.OK {
			t.Errorf("%d: Detect = %d, %d; %d, %d", purity, n, e, m, f)
		}
	}
}
