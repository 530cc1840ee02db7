package hour_test

import (
	"math"
	"math/rand"
	"reflect"
	"slices"
	"testing"

	"stearin/api"
	"stearin/hour"
)

// callAll calls all functions.
func callAll(g given) []any {
	part, at, e := hour.Check(g.s)
	rate, f := hour.Rate(g.s, g.t)
	odd, h := hour.Odd(g.s, g.t)
	rates, i := hour.Rates(g.s, g.l, g.kind)
	minutes, j := hour.Minutes(g.s, g.l, g.kind)
	promise, k := hour.Promise(g.s, g.l, g.kind)
	fits, l := hour.Fits(g.s, g.l, g.kind, g.rule)
	broken, m := hour.Broken(g.s, g.l, g.boxes)
	text, n := hour.Write(g.s, g.t)
	test, o := hour.Read(g.s, g.text)
	// Nil and an empty list are the same.
	odd, broken, test.Marks = append([]int{}, odd...), append([]int{}, broken...), append([]api.HrMark{}, test.Marks...)
	return []any{part, at, e, rate, f, odd, h, rates, i, minutes, j, promise, k, fits, l, broken, m, text, n, test, o}
}

// eachGiven calls a test with random arguments.
func eachGiven(seed int64, times int, test func(r *rand.Rand, g given)) {
	for _, z := range []size{small(), large()} {
		eachWorks(seed, times, z, func(r *rand.Rand, s api.HrShop, l []api.HrTest) {
			g := given{s: s, t: l[0], l: l, kind: l[0].Kind, rule: r.Intn(len(s.Rules) + 1)}
			for range r.Intn(6) {
				g.boxes = append(g.boxes, api.HrBox{Kind: l[r.Intn(len(l))].Kind, Hours: r.Intn(50)})
			}
			g.text, _ = hour.Write(s, l[len(l)-1])
			test(r, g)
		})
	}
}

// behind is a copy of a list, with one more element behind its end.
func behind[T any](list []T, more T) []T {
	return append(slices.Clone(list), more)[:len(list)]
}

// whole is a list with what is behind its end.
func whole[T any](list []T) []T { return list[:len(list)+1] }

// lists are all lists of some arguments, with what is behind their ends.
func lists(g given) []any {
	all := []any{whole(g.s.Kinds), whole(g.s.Rules), whole(g.t.Marks), whole(g.l), whole(g.boxes)}
	for _, t := range g.l {
		all = append(all, whole(t.Marks))
	}
	return all
}

// roomy is a copy of arguments in which each list has one more element behind its end.
func roomy(g given) given {
	g.s.Kinds, g.s.Rules = behind(g.s.Kinds, kind("behind", 77, 78, 9)), behind(g.s.Rules, rule("behind", span(77, 78), span(77, 78)))
	g.t.Marks, g.l, g.boxes = behind(g.t.Marks, mark(77, 78)), behind(g.l, api.HrTest{Kind: 77}), behind(g.boxes, api.HrBox{Kind: 77, Hours: 78})
	for i, t := range g.l {
		g.l[i].Marks = behind(t.Marks, mark(77, 78))
	}
	return g
}

// P9.15: arguments are as they were, also behind their length.
func TestArgumentsAreNotModified(t *testing.T) {
	eachGiven(915, 300, func(r *rand.Rand, g given) {
		own, copied := roomy(g), roomy(g)
		callAll(own)
		if !reflect.DeepEqual(lists(own), lists(copied)) {
			t.Fatalf("%v, not %v", own, g)
		}
	})
}

// P9.15: the same call returns the same again.
func TestNothingIsKept(t *testing.T) {
	eachGiven(9150, 300, func(r *rand.Rand, g given) {
		first := callAll(g)
		callAll(good())
		callAll(given{kind: -1, rule: -1})
		if again := callAll(g); !reflect.DeepEqual(first, again) {
			t.Fatalf("%v; %v", first, again)
		}
	})
}

// fresh reports whether results of a call are not changed if another one is.
func fresh[T comparable](call func() []T, other T) bool {
	first, second := call(), call()
	want := slices.Clone(first)
	for i := range first[:cap(first)] {
		first[:cap(first)][i] = other
	}
	return len(want) > 0 && slices.Equal(second, want) && slices.Equal(call(), want)
}

// P9.15: results are new memory.
func TestResultsAreNewMemory(t *testing.T) {
	g := roomy(changed(func(g *given) { g.t = exampleU() }))
	copied := roomy(g)
	if !fresh(func() []int { l, _ := hour.Odd(g.s, g.t); return l }, 77) {
		t.Error("Odd")
	}
	if !fresh(func() []int { l, _ := hour.Broken(g.s, g.l, g.boxes); return l }, 77) {
		t.Error("Broken")
	}
	if !fresh(func() []api.HrMark { x, _ := hour.Read(g.s, g.text); return x.Marks }, mark(77, 78)) {
		t.Error("Read")
	}
	if !reflect.DeepEqual(lists(g), lists(copied)) {
		t.Errorf("%v", g)
	}
}

// wildly makes random arguments, also such as are not valid.
type wildly struct {
	*rand.Rand
	numbers []int
}

func (w wildly) number() int {
	if w.Intn(200) > 0 {
		return w.Intn(30)
	}
	return w.numbers[w.Intn(len(w.numbers))]
}

// span is any range, mostly in its order.
func (w wildly) span() api.Span {
	lo := w.number()
	return span(lo, lo+w.number())
}

// about is a number, and sometimes another one near it.
func (w wildly) about(many int) int {
	if w.Intn(20) > 0 {
		return many
	}
	return max(0, many+w.Intn(3)-1)
}

// name is a name of its own, and sometimes another one, or none.
func (w wildly) name(at int) string {
	if w.Intn(40) > 0 {
		return string(rune('a' + at))
	}
	return []string{"", "a", "B", "a-"}[w.Intn(4)]
}

// test is any test.
func (w wildly) test() api.HrTest {
	t := api.HrTest{Kind: w.Intn(2), Error: w.number()}
	if w.Intn(40) == 0 {
		t.Kind = w.number()
	}
	minute := w.number() - 1
	for range w.about(2 + w.Intn(9)) {
		minute += 1 + w.number()
		t.Marks = append(t.Marks, mark(minute, 300+w.number()-minute))
	}
	return t
}

// given are any arguments.
func (w wildly) given() given {
	g := given{t: w.test(), kind: w.Intn(2), rule: w.Intn(4)}
	g.s.Margin = w.number()
	for at := range w.about(2 + w.Intn(5)) {
		own := w.span()
		g.s.Kinds = append(g.s.Kinds, api.HrKind{Name: w.name(at), Weight: span(own.Lo+30, own.Hi+30), Rest: w.number()})
	}
	for at := range w.about(w.Intn(7)) {
		g.s.Rules = append(g.s.Rules, api.HrRule{Name: w.name(at), Minutes: w.span(), Weight: w.span()})
	}
	for range w.about(1 + w.Intn(8)) {
		g.l = append(g.l, w.test())
	}
	for range w.about(w.Intn(21)) {
		g.boxes = append(g.boxes, api.HrBox{Kind: w.Intn(2), Hours: w.number()})
	}
	g.text = disturbed(w.Rand, "test a 5\n0 77\n9 70\n")
	return g
}

// P9.15, P1: any arguments are accepted. Each call returns, and with an error nothing else.
func TestAnyArgumentsAreAccepted(t *testing.T) {
	w := wildly{rand.New(rand.NewSource(9151)), []int{math.MinInt, math.MinInt + 1, math.MinInt32, -1000000, -2, -1, 0, 500, 501, 10000, 10001, longest - 1, longest, longest + 1, heaviest, heaviest + 1, math.MaxInt32, math.MaxInt - 1, math.MaxInt}}
	tests, kinds, boxes, texts := map[api.Errno]int{}, map[api.Errno]int{}, map[api.Errno]int{}, map[api.Errno]int{}
	for range 60000 {
		g := w.given()
		if w.Intn(4) == 0 {
			g.s = anyShop(w.Rand, small())
		}
		a := ask(t, g)
		tests[a.rate]++
		kinds[a.fits]++
		boxes[a.broken]++
		texts[a.read]++
	}
	for _, e := range []api.Errno{api.OK, api.ErrArg, api.ErrLong, api.ErrNone, api.ErrTwice, api.ErrForm, api.ErrRange, api.ErrDown} {
		if tests[e] < 100 {
			t.Errorf("%d: %v", e, tests)
		}
		if kinds[e] < 100 {
			t.Errorf("%d: %v", e, kinds)
		}
		if boxes[e] < 100 {
			t.Errorf("%d: %v", e, boxes)
		}
	}
	for _, e := range []api.Errno{api.OK, api.ErrForm} {
		if texts[e] < 1000 {
			t.Errorf("%d: %v", e, texts)
		}
	}
	ask(t, given{})
	for _, n := range []int{math.MinInt, math.MaxInt} {
		all := []api.HrTest{{Kind: n, Error: n, Marks: []api.HrMark{mark(n, n), mark(n, n)}}}
		ask(t, given{s: works(), t: all[0], l: all, kind: n, rule: n, boxes: []api.HrBox{{Kind: n, Hours: n}}, text: "test altar 9223372036854775807\n0 0\n1 0\n"})
		all = []api.HrTest{burnt(n, mark(n, n), mark(0, n), mark(n, 0))}
		ask(t, given{s: works(), t: all[0], l: all, text: "test altar 5\n9223372036854775807 0\n-9223372036854775808 0\n"})
		ask(t, given{s: api.HrShop{Kinds: []api.HrKind{kind("a", n, n, n)}, Rules: []api.HrRule{rule("a", span(n, n), span(n, n))}}, t: exampleT(), l: []api.HrTest{exampleT()}})
		ask(t, given{s: api.HrShop{Kinds: []api.HrKind{kind("a", 1, 1, n)}, Rules: []api.HrRule{rule("a", span(n, n), span(n, n))}, Margin: n}, t: exampleT(), l: []api.HrTest{exampleT()}})
	}
}

// R3: nil and empty are the same.
func TestNilAndEmptyAreTheSame(t *testing.T) {
	none := api.HrShop{}
	empty := api.HrShop{Kinds: []api.HrKind{}, Rules: []api.HrRule{}}
	noRules := with(func(s *api.HrShop) { s.Rules = nil })
	emptyRules := with(func(s *api.HrShop) { s.Rules = []api.HrRule{} })
	for _, c := range [][2]given{
		{given{s: none}, given{s: empty, t: api.HrTest{Marks: []api.HrMark{}}, l: []api.HrTest{}, boxes: []api.HrBox{}}},
		{given{s: noRules}, given{s: emptyRules, t: api.HrTest{Marks: []api.HrMark{}}, l: []api.HrTest{}, boxes: []api.HrBox{}}},
		{given{s: noRules, l: []api.HrTest{exampleT()}}, given{s: emptyRules, l: []api.HrTest{exampleT()}, boxes: []api.HrBox{}}},
	} {
		if !reflect.DeepEqual(callAll(c[0]), callAll(c[1])) {
			t.Errorf("%v; %v", callAll(c[0]), callAll(c[1]))
		}
	}
	if a := ask(t, given{s: empty}); a != ofShop(api.ErrLong) {
		t.Errorf("%v", a)
	}
}
