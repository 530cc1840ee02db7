package wax_test

import (
	"math/rand"
	"slices"
	"testing"

	"stearin/api"
	"stearin/wax"
)

// P1.7, P1.9: whatever a mixture is, and whichever of its truths is read, it is among what is told.
func TestNoTruthIsMissed(t *testing.T) {
	eachCase(17, 4000, func(r *rand.Rand, x api.WxTable, readings []int, m mixture) {
		if m.a != m.b {
			if s, e := wax.Mixed(x, readings, m.a, m.b); e != api.OK || m.x < s.Lo || m.x > s.Hi {
				t.Fatalf("%v, %v, %v: Mixed = %v, %d", x, readings, m, s, e)
			}
		}
		if sets, e := wax.Sets(x, readings); e != api.OK || !slices.Contains(sets, m.set()) {
			t.Fatalf("%v, %v, %v: Sets = %v, %d", x, readings, m, sets, e)
		}
		must, may, e := wax.Within(x, readings)
		if e != api.OK || slices.ContainsFunc(must, func(k int) bool { return m.parts(k) == 0 }) {
			t.Fatalf("%v, %v, %v: must = %v, %d", x, readings, m, must, e)
		}
		for k := range x.Kinds {
			if m.parts(k) > 0 && !slices.Contains(may, k) {
				t.Fatalf("%v, %v, %v: may = %v", x, readings, m, may)
			}
			s, verdict, e := wax.Sold(x, readings, k)
			if n := m.parts(k); e != api.OK || n < s.Lo || n > s.Hi || n < x.Purity && verdict == api.WxPure || n >= x.Purity && verdict == api.WxImpure {
				t.Fatalf("%v, %v, %v: Sold of %d = %v, %d, %d", x, readings, m, k, s, verdict, e)
			}
		}
	})
}

// told is what can be told about a sample, found by trying all mixtures.
type told struct {
	sets  []int
	parts []api.Span
}

// tryAll tries all mixtures.
func tryAll(x api.WxTable, readings []int) told {
	var all told
	for m := range mixtures(x) {
		if !m.explains(x, readings) {
			continue
		}
		if len(all.sets) == 0 {
			for k := range x.Kinds {
				all.parts = append(all.parts, span(m.parts(k), m.parts(k)))
			}
		}
		if !slices.Contains(all.sets, m.set()) {
			all.sets = append(all.sets, m.set())
		}
		for k, s := range all.parts {
			all.parts[k] = span(min(s.Lo, m.parts(k)), max(s.Hi, m.parts(k)))
		}
	}
	slices.Sort(all.sets)
	return all
}

// lists returns the kinds that are in all sets, and in some.
func (all told) lists(kinds int) (must, may []int) {
	for k := range kinds {
		n := 0
		for _, set := range all.sets {
			n += set >> k & 1
		}
		if n == len(all.sets) {
			must = append(must, k)
		}
		if n > 0 {
			may = append(may, k)
		}
	}
	return must, may
}

// verdict returns what a kind is sold as.
func verdict(s api.Span, purity int) int {
	if s.Lo >= purity {
		return api.WxPure
	}
	if s.Hi < purity {
		return api.WxImpure
	}
	return api.WxPerhaps
}

// P1.3, P1.4, P1.8, P1.9: Sets, Within and Sold tell just what the mixtures are that explain the readings, of any readings.
func TestAllThatIsToldIsReached(t *testing.T) {
	down := 0
	eachCase(18, 500, func(r *rand.Rand, x api.WxTable, readings []int, m mixture) {
		if at := r.Intn(len(readings)); r.Intn(3) == 0 {
			readings[at] = x.Kinds[r.Intn(len(x.Kinds))].Props[at].Hi
		}
		want := tryAll(x, readings)
		if sets, e := wax.Sets(x, readings); e != api.OK || !slices.Equal(sets, want.sets) {
			t.Fatalf("%v, %v: Sets = %v, %d, not %v", x, readings, sets, e, want.sets)
		}
		must, may, e := wax.Within(x, readings)
		if len(want.sets) == 0 {
			down++
			s, v, f := wax.Sold(x, readings, 0)
			if len(must) != 0 || len(may) != 0 || e != api.ErrDown || s != (api.Span{}) || v != 0 || f != api.ErrDown {
				t.Fatalf("%v, %v: Within = %v, %v, %d; Sold = %v, %d, %d", x, readings, must, may, e, s, v, f)
			}
			return
		}
		inAll, inSome := want.lists(len(x.Kinds))
		if e != api.OK || !slices.Equal(must, inAll) || !slices.Equal(may, inSome) {
			t.Fatalf("%v, %v: Within = %v, %v, %d, not %v, %v", x, readings, must, may, e, inAll, inSome)
		}
		for k, parts := range want.parts {
			if s, v, e := wax.Sold(x, readings, k); s != parts || v != verdict(parts, x.Purity) || e != api.OK {
				t.Fatalf("%v, %v: Sold of %d = %v, %d, %d, not %v", x, readings, k, s, v, e, parts)
			}
		}
	})
	if down < 20 {
		t.Errorf("just %d samples that nothing explains", down)
	}
}

// P1.2, P1.8, P1.12: the parts of Mixed are just those of the mixtures that explain the readings, without a gap; and those of b are the others.
func TestAllPartsBetweenAreReached(t *testing.T) {
	down := 0
	eachCase(12, 1500, func(r *rand.Rand, x api.WxTable, readings []int, m mixture) {
		a, b := r.Intn(len(x.Kinds)), r.Intn(len(x.Kinds))
		if a == b {
			return
		}
		s, e := wax.Mixed(x, readings, a, b)
		if e != api.OK {
			s = span(1, 0)
			down++
		}
		for n := range 1001 {
			if is := (mixture{a, b, n}).explains(x, readings); is != (s.Lo <= n && n <= s.Hi) {
				t.Fatalf("%v, %v: Mixed of %d and %d = %v, %d: %d", x, readings, a, b, s, e, n)
			}
		}
		back, f := wax.Mixed(x, readings, b, a)
		if f != e || e == api.OK && back != span(1000-s.Hi, 1000-s.Lo) || e != api.OK && (e != api.ErrDown || back != (api.Span{})) {
			t.Fatalf("%v, %v: Mixed of %d and %d = %v, %d; %v, %d", x, readings, a, b, s, e, back, f)
		}
	})
	if down < 20 {
		t.Errorf("just %d samples that nothing explains", down)
	}
}

// shared reports whether there are readings that a pure kind explains, and n parts of another kind in it: it shows both truths of each.
func shared(x api.WxTable, pure, other, n int) bool {
	m := mixture{other, pure, n}.whole()
	for p, prop := range x.Props {
		low, high := (mixture{pure, pure, 1000}).ends(x, p)
		lo, hi := m.ends(x, p)
		// The truths of both that are next to each other; the reading is in their middle. All is times 2000.
		one := min(max(lo, low), high)
		two := min(max(one, lo), hi)
		reading := one + two
		if max(reading-2*one, 2*one-reading) > 2000*prop.Error || max(reading-2*two, 2*two-reading) > 2000*prop.Error {
			return false
		}
	}
	return true
}

// P1.5, P1.10: from the least part on, pure alone explains no readings of the mixture; with one part less it does.
func TestDetectFindsAllFromItOn(t *testing.T) {
	found := map[api.Errno]int{}
	eachCase(110, 1500, func(r *rand.Rand, x api.WxTable, _ []int, _ mixture) {
		pure, other := r.Intn(len(x.Kinds)), r.Intn(len(x.Kinds))
		if pure == other {
			return
		}
		n, e := wax.Detect(x, pure, other)
		found[e]++
		if e == api.ErrDown && n == 0 {
			n = 1001
		} else if e != api.OK || n < 1 || n > 1000 {
			t.Fatalf("%v: Detect of %d and %d = %d, %d", x, pure, other, n, e)
		}
		for parts := range 1001 {
			if shared(x, pure, other, parts) != (parts < n) {
				t.Fatalf("%v: Detect of %d and %d = %d, %d: %d parts", x, pure, other, n, e, parts)
			}
		}
	})
	if found[api.OK] < 100 || found[api.ErrDown] < 100 {
		t.Errorf("not enough of both: %v", found)
	}
}

// P1.10: what is read of a mixture with so many parts is never explained by pure alone.
func TestDetectedIsNeverCalledPureAlone(t *testing.T) {
	times := 0
	eachCase(111, 3000, func(r *rand.Rand, x api.WxTable, _ []int, m mixture) {
		n, e := wax.Detect(x, m.b, m.a)
		if e != api.OK {
			return
		}
		readings := anyReadings(r, x, mixture{m.a, m.b, n + r.Intn(1001-n)}.whole())
		if slices.Contains(readings, api.WxUnknown) {
			return
		}
		times++
		if sets, e := wax.Sets(x, readings); e != api.OK || slices.Contains(sets, 1<<m.b) {
			t.Fatalf("%v, %v: Sets = %v, %d", x, readings, sets, e)
		}
	})
	if times < 100 {
		t.Errorf("just %d times", times)
	}
}

// notWider compares what is told about a sample with what is told if less is known.
func notWider(t *testing.T, x, less api.WxTable, readings, fewer []int) {
	sets, e := wax.Sets(x, readings)
	all, f := wax.Sets(less, fewer)
	if e != api.OK || f != api.OK {
		t.Fatalf("%v, %v: Sets: %d; %v, %v: %d", x, readings, e, less, fewer, f)
	}
	for _, set := range sets {
		if !slices.Contains(all, set) {
			t.Fatalf("%v, %v: Sets = %v; %v, %v: %v", x, readings, sets, less, fewer, all)
		}
	}
	for a := range x.Kinds {
		s, _, e := wax.Sold(x, readings, a)
		w, _, f := wax.Sold(less, fewer, a)
		if e == api.OK && (f != api.OK || s.Lo < w.Lo || s.Hi > w.Hi) {
			t.Fatalf("%v, %v: Sold = %v; %v, %v: %v, %d", x, readings, s, less, fewer, w, f)
		}
		b := (a + 1) % len(x.Kinds)
		s, e = wax.Mixed(x, readings, a, b)
		w, f = wax.Mixed(less, fewer, a, b)
		if e == api.OK && (f != api.OK || s.Lo < w.Lo || s.Hi > w.Hi) {
			t.Fatalf("%v, %v: Mixed = %v; %v, %v: %v, %d", x, readings, s, less, fewer, w, f)
		}
	}
}

// P1.11
func TestMoreThatIsReadTellsMore(t *testing.T) {
	eachCase(112, 1000, func(r *rand.Rand, x api.WxTable, readings []int, m mixture) {
		fewer := slices.Clone(readings)
		fewer[r.Intn(len(fewer))] = api.WxUnknown
		notWider(t, x, x, readings, fewer)

		exact := clone(x)
		at := r.Intn(len(x.Props))
		exact.Props[at].Error = r.Intn(x.Props[at].Error + 1)
		notWider(t, exact, x, readings, readings)

		narrow := clone(x)
		s := &narrow.Kinds[r.Intn(len(x.Kinds))].Props[at]
		s.Lo += r.Intn(s.Hi - s.Lo + 1)
		s.Hi -= r.Intn(s.Hi - s.Lo + 1)
		notWider(t, narrow, x, readings, readings)
	})
}

// P1.11: each of the three tells really more in the example.
func TestMoreThatIsReadTellsMoreOfTheExample(t *testing.T) {
	exact, narrow := example(), example()
	exact.Props[1].Error = 1
	narrow.Kinds[0].Props[1].Hi = 20
	for i, c := range []struct {
		t        api.WxTable
		readings []int
		want     api.Span
	}{{example(), []int{615, -1}, span(500, 1000)}, {example(), []int{615, 16}, span(637, 1000)}, {exact, []int{615, 16}, span(682, 1000)}, {narrow, []int{615, 16}, span(700, 1000)}} {
		if s, e := wax.Mixed(c.t, c.readings, 0, 1); s != c.want || e != api.OK {
			t.Errorf("%d: Mixed = %v, %d", i, s, e)
		}
	}
}

// P1.12: the kinds in another order are the same sets, with other numbers.
func TestTheOrderOfKindsDoesNotMatter(t *testing.T) {
	eachCase(120, 1000, func(r *rand.Rand, x api.WxTable, readings []int, m mixture) {
		y, order := clone(x), r.Perm(len(x.Kinds))
		for i, k := range order {
			y.Kinds[k] = clone(x).Kinds[i]
		}
		sets, e := wax.Sets(x, readings)
		moved, f := wax.Sets(y, readings)
		var want []int
		for _, set := range sets {
			n := 0
			for i, k := range order {
				n |= set >> i & 1 << k
			}
			want = append(want, n)
		}
		slices.Sort(want)
		if e != api.OK || f != api.OK || !slices.Equal(moved, want) {
			t.Fatalf("%v, %v, %v: Sets = %v; %v", x, readings, order, sets, moved)
		}
		for i, k := range order {
			s, v, _ := wax.Sold(x, readings, i)
			if w, u, _ := wax.Sold(y, readings, k); s != w || v != u {
				t.Fatalf("%v, %v, %v: Sold of %d = %v, %d; %v, %d", x, readings, order, i, s, v, w, u)
			}
		}
	})
}

// P1.13: a kind alone explains readings just if each of them is at most its error outside of the range.
func TestAKindAlone(t *testing.T) {
	times := map[bool]int{}
	eachCase(113, 3000, func(r *rand.Rand, x api.WxTable, readings []int, m mixture) {
		k := r.Intn(len(x.Kinds))
		alone := true
		for p, s := range x.Kinds[k].Props {
			wrong := x.Props[p].Error
			switch just := []int{s.Lo - wrong, s.Hi + wrong}[r.Intn(2)]; r.Intn(5) {
			case 0, 1, 2:
				readings[p] = min(max(0, just), api.MaxWxValue)
			case 3:
				readings[p] = min(max(0, just-1+2*r.Intn(2)), api.MaxWxValue)
			}
			alone = alone && (readings[p] == api.WxUnknown || readings[p] >= s.Lo-wrong && readings[p] <= s.Hi+wrong)
		}
		times[alone]++
		sets, e := wax.Sets(x, readings)
		if e != api.OK || slices.Contains(sets, 1<<k) != alone {
			t.Fatalf("%v, %v: Sets = %v, %d: %d alone is %v", x, readings, sets, e, k, alone)
		}
		one := api.WxTable{Props: x.Props, Kinds: x.Kinds[k : k+1], Purity: x.Purity}
		s, v, e := wax.Sold(one, readings, 0)
		if alone != (e == api.OK && s == span(1000, 1000) && v == api.WxPure) || !alone && e != api.ErrDown {
			t.Fatalf("%v, %v: Sold = %v, %d, %d", one, readings, s, v, e)
		}
	})
	if times[true] < 100 || times[false] < 100 {
		t.Errorf("not enough of both: %v", times)
	}
}
