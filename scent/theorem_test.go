package scent_test

import (
	"math/rand"
	"reflect"
	"slices"
	"testing"

	"stearin/api"
	"stearin/scent"
)

// contentOf is Content, which must have no error.
func contentOf(t *testing.T, s api.ScShop, l []api.ScBatch) [][]api.Span {
	t.Helper()
	list, e := scent.Content(s, l)
	if e != api.OK {
		t.Fatalf("%v, %v: Content: %d", s, l, e)
	}
	return list
}

// pullOf is Pull, which must have no error.
func pullOf(t *testing.T, s api.ScShop, l []api.ScBatch) []api.Span {
	t.Helper()
	list, e := scent.Pull(s, l)
	if e != api.OK {
		t.Fatalf("%v, %v: Pull: %d", s, l, e)
	}
	return list
}

// madeOf is Made, which must have no error.
func madeOf(t *testing.T, s api.ScShop, l []api.ScBatch, at int, truth api.ScTruth) []int {
	t.Helper()
	list, e := scent.Made(s, l, at, truth)
	if e != api.OK {
		t.Fatalf("%v, %v, %d, %v: Made: %d", s, l, at, truth, e)
	}
	return list
}

// keepsOf is Keeps, which must have no error.
func keepsOf(t *testing.T, s api.ScShop, l []api.ScBatch) (batch, thing int) {
	t.Helper()
	batch, thing, e := scent.Keeps(s, l)
	if e != api.OK {
		t.Fatalf("%v, %v: Keeps: %d", s, l, e)
	}
	return batch, thing
}

// isIn reports whether a number is in a range.
func isIn(n int, s api.Span) bool { return s.Lo <= n && n <= s.Hi }

// inside reports whether a range is within another one.
func inside(s, other api.Span) bool { return isIn(s.Lo, other) && isIn(s.Hi, other) }

// all reports whether something holds for the elements of two lists, one by one.
func all[T any](a, b []T, holds func(T, T) bool) bool {
	for i := range a {
		if !holds(a[i], b[i]) {
			return false
		}
	}
	return len(a) == len(b)
}

// seen is all that was seen of some numbers: the least and the greatest one.
type seen struct {
	api.Span
	any bool
}

func (x *seen) see(n int) {
	if !x.any || n < x.Lo {
		x.Lo = n
	}
	if !x.any || n > x.Hi {
		x.Hi = n
	}
	x.any = true
}

// told is what all truths of a batch tell, one after the other: of its content, of the pull, and of each dye when it is pale.
type told struct {
	content, pale [5]seen
	pull          seen
}

// tell tries all truths of a batch.
func tell(t *testing.T, s api.ScShop, l []api.ScBatch, at, shows int) (x told) {
	t.Helper()
	weight := heavy(l[at])
	for truth := range truths(s, l, at) {
		made := madeOf(t, s, l, at, truth)
		if want := has(s, l[at], truth); !slices.Equal(made, want) {
			t.Fatalf("%v, %v, %d, %v: Made = %v, not %v", s, l, at, truth, made, want)
		}
		for i, n := range made {
			x.content[i].see(n)
			x.pale[i].see(palesAfter(s.Things[i].Fade, weight, n, shows))
		}
		down, up := pulls(s, weight, made)
		x.pull.see(down)
		x.pull.see(up)
	}
	return x
}

// P7.2, P7.3, P7.5, P7.6, P7.7, P7.11: batches that have few truths, by all of them.
func TestAllTruthsOfSmallBatches(t *testing.T) {
	tried := 0
	eachShop(76, 1500, small(), func(r *rand.Rand, s api.ScShop, l []api.ScBatch) {
		if !few(s, l, 3000) {
			return
		}
		tried++
		content, pull := contentOf(t, s, l), pullOf(t, s, l)
		shows := r.Intn(15)
		wantBatch, wantThing := -1, -1
		for at := range l {
			x := tell(t, s, l, at, shows)
			for i, thing := range s.Things {
				if content[at][i] != x.content[i].Span {
					t.Fatalf("%v, %v: Content = %v, not %v of %d, %d", s, l, content, x.content[i], at, i)
				}
				if wantBatch < 0 && x.content[i].Hi > thing.Limit*heavy(l[at]) {
					wantBatch, wantThing = at, i
				}
				if can, must, e := scent.Pale(s, l[:at+1], i, shows); thing.Kind == api.ScDye && (can != x.pale[i].Lo || must != x.pale[i].Hi || e != api.OK) {
					t.Fatalf("%v, %v: Pale of %d = %d, %d, %d, not %v", s, l[:at+1], i, can, must, e, x.pale[i])
				}
			}
			if pull[at] != x.pull.Span {
				t.Fatalf("%v, %v: Pull = %v, not %v of %d", s, l, pull, x.pull, at)
			}
		}
		if batch, thing := keepsOf(t, s, l); batch != wantBatch || thing != wantThing {
			t.Fatalf("%v, %v: Keeps = %d, %d, not %d, %d", s, l, batch, thing, wantBatch, wantThing)
		}
	})
	if tried < 500 {
		t.Errorf("just %d", tried)
	}
}

// P7.2, P7.6: the micrograms of random truths are in the ranges, and those of the ends reach them.
func TestAnyTruthIsInContent(t *testing.T) {
	eachSize(760, 200, func(r *rand.Rand, s api.ScShop, l []api.ScBatch) {
		content := contentOf(t, s, l)
		if want := contents(s, l); !reflect.DeepEqual(content, want) {
			t.Fatalf("%v, %v: Content = %v, not %v", s, l, content, want)
		}
		for at := range l {
			for range 20 {
				truth := anyTruth(r, s, l, at)
				made := madeOf(t, s, l, at, truth)
				for i, n := range made {
					if !isIn(n, content[at][i]) {
						t.Fatalf("%v, %v: %d of %d, of %v", s, l, n, i, content[at])
					}
				}
				if !slices.Equal(made, has(s, l[at], truth)) {
					t.Fatalf("%v, %v, %v: Made = %v", s, l, truth, made)
				}
			}
			least, most := ends(s, l, at)
			for i, n := range madeOf(t, s, l, at, least) {
				if n != content[at][i].Lo {
					t.Fatalf("%v, %v: at least %d, not %v", s, l, n, content[at][i])
				}
			}
			for i, n := range madeOf(t, s, l, at, most) {
				if n != content[at][i].Hi {
					t.Fatalf("%v, %v: at most %d, not %v", s, l, n, content[at][i])
				}
			}
		}
	})
}

// P7.3, P7.7: if Keeps names no batch, all limits are kept in random truths; the one that it names does not keep one in a truth, and those before it do.
func TestLimitsAreKeptInAnyTruth(t *testing.T) {
	many := map[bool]int{}
	eachSize(77, 300, func(r *rand.Rand, s api.ScShop, l []api.ScBatch) {
		// So that there are some that keep all.
		for i := range s.Things {
			if r.Intn(2) == 0 {
				s.Things[i].Limit = min(1000000, 20*s.Things[i].Limit)
			}
		}
		batch, thing := keepsOf(t, s, l)
		many[batch < 0]++
		for at := range l {
			for range 10 {
				for i, n := range madeOf(t, s, l, at, anyTruth(r, s, l, at)) {
					before := at < batch || at == batch && i < thing
					if (batch < 0 || before) && n > s.Things[i].Limit*heavy(l[at]) {
						t.Fatalf("%v, %v: Keeps = %d, %d; %d of %d in %d", s, l, batch, thing, n, i, at)
					}
				}
			}
		}
		if batch < 0 {
			return
		}
		_, most := ends(s, l, batch)
		if n := madeOf(t, s, l, batch, most)[thing]; n <= s.Things[thing].Limit*heavy(l[batch]) {
			t.Fatalf("%v, %v: Keeps = %d, %d; at most %d", s, l, batch, thing, n)
		}
	})
	if many[false] < 100 || many[true] < 100 {
		t.Errorf("%v", many)
	}
}

// taken is the grams of a lot that the last batch can have more, by all numbers; none is outside of what there is between.
func taken(t *testing.T, s api.ScShop, l []api.ScBatch, lot int) seen {
	t.Helper()
	at := len(l) - 1
	own := contents(s, l)[at]
	var x seen
	many := 0
	for n := range 100000 - l[at].Grams[lot] + 1 {
		keeps := true
		for i, thing := range s.Things {
			keeps = keeps && own[i].Hi+n*s.Lots[lot].Parts[i].Hi <= thing.Limit*(heavy(l[at])+n)
		}
		if keeps {
			x.see(n)
			many++
		}
	}
	if x.any && many != x.Hi-x.Lo+1 {
		t.Fatalf("%v, %v: just %d of %v", s, l, many, x)
	}
	return x
}

// P7.4, P7.8: Take is all numbers of grams with which the last batch keeps all limits, each tried.
func TestTakeByAllNumbers(t *testing.T) {
	many := map[bool]int{}
	eachSize(78, 60, func(r *rand.Rand, s api.ScShop, l []api.ScBatch) {
		for i := range s.Things {
			if r.Intn(2) == 0 {
				s.Things[i].Limit = min(1000000, 2*s.Things[i].Limit)
			}
		}
		for lot := range s.Lots {
			x := taken(t, s, l, lot)
			many[x.any]++
			want := api.ErrDown
			if x.any {
				want = api.OK
			}
			if got, e := scent.Take(s, l, lot); got != x.Span || e != want {
				t.Fatalf("%v, %v: Take of %d = %v, %d, not %v", s, l, lot, got, e, x)
			}
		}
	})
	if many[false] < 50 || many[true] < 50 {
		t.Errorf("%v", many)
	}
}

// withMore is batches of which the last one has grams of a lot more.
func withMore(l []api.ScBatch, lot, grams int) []api.ScBatch {
	l = copyOfAll(l)
	l[len(l)-1].Grams[lot] += grams
	return l
}

// lastKeeps reports whether the last batch keeps all limits, by Content.
func lastKeeps(t *testing.T, s api.ScShop, l []api.ScBatch) bool {
	t.Helper()
	for i, r := range contentOf(t, s, l)[len(l)-1] {
		if r.Hi > s.Things[i].Limit*heavy(l[len(l)-1]) {
			return false
		}
	}
	return true
}

// P7.8: with grams from those of Take the last batch keeps all limits, and with others it does not.
func TestWithWhatIsTakenAllLimitsAreKept(t *testing.T) {
	eachSize(780, 500, func(r *rand.Rand, s api.ScShop, l []api.ScBatch) {
		for lot := range s.Lots {
			got, e := scent.Take(s, l, lot)
			most := 100000 - l[len(l)-1].Grams[lot]
			if e == api.OK && !inside(got, span(0, most)) {
				t.Fatalf("%v, %v: Take = %v", s, l, got)
			}
			for _, n := range []int{0, most, r.Intn(most + 1), r.Intn(1 + most/100), got.Lo, got.Hi, got.Lo - 1, got.Hi + 1, (got.Lo + got.Hi) / 2} {
				if !isIn(n, span(0, most)) {
					continue
				}
				more := withMore(l, lot, n)
				want := e == api.OK && isIn(n, got)
				if keeps := lastKeeps(t, s, more); keeps != want {
					t.Fatalf("%v, %v: Take = %v, %d; %d: %v", s, l, got, e, n, keeps)
				}
				if batch, _ := keepsOf(t, s, more); want && batch == len(l)-1 || !want && batch < 0 {
					t.Fatalf("%v, %v: Take = %v, %d; %d: Keeps = %d", s, l, got, e, n, batch)
				}
			}
		}
	})
}

// P7.3, P7.9: what is left of all batches is what was melted of all lots.
func TestWaxIsConserved(t *testing.T) {
	eachSize(79, 300, func(_ *rand.Rand, s api.ScShop, l []api.ScBatch) {
		left, e := scent.Left(s, l)
		if e != api.OK || len(left) != len(l) {
			t.Fatalf("%v, %v: Left = %v, %d", s, l, left, e)
		}
		all := 0
		for i, b := range l {
			want := heavy(b)
			for _, later := range l[i+1:] {
				if i < len(later.Back) {
					want -= later.Back[i]
				}
			}
			if left[i] != want || left[i] < 0 {
				t.Fatalf("%v, %v: Left = %v", s, l, left)
			}
			all += left[i]
			for _, grams := range b.Grams {
				all -= grams
			}
		}
		if all != 0 {
			t.Fatalf("%v, %v: Left = %v, %d too many", s, l, left, all)
		}
	})
}

// P7.3: of no batch more can be taken than what is left of it.
func TestJustWhatIsLeftCanBeTaken(t *testing.T) {
	eachSize(790, 200, func(_ *rand.Rand, s api.ScShop, l []api.ScBatch) {
		left, _ := scent.Left(s, l)
		if len(l) == 6 {
			return
		}
		for i, grams := range left {
			if grams >= 100000 {
				continue
			}
			b := api.ScBatch{Grams: make([]int, len(s.Lots)), Back: make([]int, i+1), Added: spans(len(s.Things))}
			b.Grams[0], b.Back[i] = 1, grams
			more := append(copyOfAll(l), b)
			if now, e := scent.Left(s, more); e != api.OK || now[i] != 0 {
				t.Fatalf("%v, %v: Left = %v, %d", s, more, now, e)
			}
			b.Back[i]++
			if _, e := scent.Left(s, more); e != api.ErrDown {
				t.Fatalf("%v, %v: %d", s, more, e)
			}
		}
	})
}

// again is batches of which the one behind the last one is a gram of one of them, and nothing else.
func again(s api.ScShop, l []api.ScBatch, at int) []api.ScBatch {
	b := api.ScBatch{Grams: make([]int, len(s.Lots)), Back: make([]int, at+1), Added: spans(len(s.Things))}
	b.Back[at] = 1
	return append(copyOfAll(l), b)
}

// P7.10: what a batch has in a truth, by its weight, is in the range of parts with which it comes back.
func TestWhatIsMeltedAgain(t *testing.T) {
	above := 0
	eachSize(710, 200, func(r *rand.Rand, s api.ScShop, l []api.ScBatch) {
		left, _ := scent.Left(s, l)
		for at := range l {
			if left[at] == 0 || len(l) == 6 {
				continue
			}
			more := again(s, l, at)
			parts := contentOf(t, s, more)[len(l)]
			truth := anyTruth(r, s, more, len(l))
			for range 10 {
				// As many parts as there really are, on both sides of what is between two numbers.
				for i, n := range madeOf(t, s, l, at, anyTruth(r, s, l, at)) {
					down, up := n/heavy(l[at]), (n+heavy(l[at])-1)/heavy(l[at])
					if up > 1000000 {
						above++
						down, up = min(down, 1000000), 1000000
					}
					if !isIn(down, parts[i]) || !isIn(up, parts[i]) {
						t.Fatalf("%v, %v: %d of %d, of %d: %v", s, l, n, i, at, parts)
					}
					for _, own := range []int{down, up} {
						truth.Back[at][i] = own
						if made := madeOf(t, s, more, len(l), truth); made[i] != own {
							t.Fatalf("%v, %v, %v: Made = %v", s, more, truth, made)
						}
					}
				}
			}
		}
	})
	if above == 0 {
		t.Errorf("none is above")
	}
}

// P7.5, P7.11: in random truths a wick has left what Pull says, and the dye is pale when Pale says it.
func TestWicksAndLightInAnyTruth(t *testing.T) {
	eachSize(711, 200, func(r *rand.Rand, s api.ScShop, l []api.ScBatch) {
		pull := pullOf(t, s, l)
		for at, b := range l {
			weight := heavy(b)
			for range 10 {
				down, up := pulls(s, weight, madeOf(t, s, l, at, anyTruth(r, s, l, at)))
				if !isIn(down, pull[at]) || !isIn(up, pull[at]) {
					t.Fatalf("%v, %v: %d to %d, of %v", s, l, down, up, pull[at])
				}
			}
			least, most := ends(s, l, at)
			if _, up := pulls(s, weight, madeOf(t, s, l, at, least)); up != pull[at].Hi {
				t.Fatalf("%v, %v: up to %d, not %v", s, l, up, pull[at])
			}
			if down, _ := pulls(s, weight, madeOf(t, s, l, at, most)); down != pull[at].Lo {
				t.Fatalf("%v, %v: from %d on, not %v", s, l, down, pull[at])
			}
		}
		last := len(l) - 1
		for dye, thing := range s.Things {
			if thing.Kind != api.ScDye {
				continue
			}
			for _, shows := range []int{0, 1, r.Intn(100), r.Intn(10000), r.Intn(1000001)} {
				can, must, e := scent.Pale(s, l, dye, shows)
				after := func(truth api.ScTruth) int {
					return palesAfter(thing.Fade, heavy(l[last]), madeOf(t, s, l, last, truth)[dye], shows)
				}
				least, most := ends(s, l, last)
				if e != api.OK || can != after(least) || must != after(most) {
					t.Fatalf("%v, %v: Pale of %d, %d = %d, %d, %d, not %d, %d", s, l, dye, shows, can, must, e, after(least), after(most))
				}
				for range 5 {
					if days := after(anyTruth(r, s, l, last)); !isIn(days, span(can, must)) {
						t.Fatalf("%v, %v: Pale of %d, %d = %d, %d, not %d", s, l, dye, shows, can, must, days)
					}
				}
			}
		}
	})
}

// narrower is a shop and batches with narrower ranges.
func narrower(r *rand.Rand, s api.ScShop, l []api.ScBatch) (api.ScShop, []api.ScBatch) {
	s, l = copyOf(s), copyOfAll(l)
	narrow := func(list []api.Span) {
		for i, own := range list {
			if r.Intn(2) == 0 {
				list[i] = part(r, own, own.Hi-own.Lo+1)
			}
		}
	}
	for _, lot := range s.Lots {
		narrow(lot.Parts)
	}
	for _, b := range l {
		narrow(b.Added)
	}
	return s, l
}

// P7.12: with narrower ranges no range is wider, and what kept its limits still does.
func TestLessIsKnown(t *testing.T) {
	eachSize(712, 400, func(r *rand.Rand, s api.ScShop, l []api.ScBatch) {
		now, then := narrower(r, s, l)
		was := contentOf(t, s, l)
		for at, list := range contentOf(t, now, then) {
			if !all(list, was[at], inside) {
				t.Fatalf("%v, %v: %v, not %v", now, then, list, was[at])
			}
		}
		if list, was := pullOf(t, now, then), pullOf(t, s, l); !all(list, was, inside) {
			t.Fatalf("%v, %v: %v, not %v", now, then, list, was)
		}
		batch, thing := keepsOf(t, s, l)
		if at, i := keepsOf(t, now, then); at >= 0 && (batch < 0 || at < batch || at == batch && i < thing) {
			t.Fatalf("%v, %v: Keeps = %d, %d, not %d, %d", now, then, at, i, batch, thing)
		}
	})
}

// P7.12: with less added no content is greater.
func TestLessIsAdded(t *testing.T) {
	eachSize(7120, 400, func(r *rand.Rand, s api.ScShop, l []api.ScBatch) {
		less := copyOfAll(l)
		for _, b := range less {
			for i, own := range b.Added {
				b.Added[i].Lo = r.Intn(own.Lo + 1)
				b.Added[i].Hi = b.Added[i].Lo + r.Intn(own.Hi-b.Added[i].Lo+1)
			}
		}
		was := contentOf(t, s, l)
		for at, list := range contentOf(t, s, less) {
			if !all(list, was[at], func(a, b api.Span) bool { return a.Lo <= b.Lo && a.Hi <= b.Hi }) {
				t.Fatalf("%v, %v: %v, not %v", s, less, list, was[at])
			}
		}
	})
}

// P7.13: the first batches of a list have what they have alone.
func TestBatchByBatch(t *testing.T) {
	eachSize(713, 200, func(_ *rand.Rand, s api.ScShop, l []api.ScBatch) {
		content, pull := contentOf(t, s, l), pullOf(t, s, l)
		batch, thing := keepsOf(t, s, l)
		for n := 1; n <= len(l); n++ {
			if list := contentOf(t, s, l[:n]); !reflect.DeepEqual(list, content[:n]) {
				t.Fatalf("%v, %v: %v, not %v", s, l[:n], list, content[:n])
			}
			if list := pullOf(t, s, l[:n]); !slices.Equal(list, pull[:n]) {
				t.Fatalf("%v, %v: %v, not %v", s, l[:n], list, pull[:n])
			}
			if at, i := keepsOf(t, s, l[:n]); batch >= n && at >= 0 || batch < n && (at != batch || i != thing) {
				t.Fatalf("%v, %v: Keeps = %d, %d, not %d, %d", s, l[:n], at, i, batch, thing)
			}
		}
	})
}

// P7.2, P7.3: of batches that have no number in Back nothing comes back.
func TestNumbersInBackThatAreNotThere(t *testing.T) {
	eachSize(714, 200, func(_ *rand.Rand, s api.ScShop, l []api.ScBatch) {
		longer := copyOfAll(l)
		for i := range longer {
			for len(longer[i].Back) < i {
				longer[i].Back = append(longer[i].Back, 0)
			}
		}
		if a, b := contentOf(t, s, l), contentOf(t, s, longer); !reflect.DeepEqual(a, b) {
			t.Fatalf("%v, %v: %v, not %v", s, longer, b, a)
		}
		a, _ := scent.Left(s, l)
		if b, e := scent.Left(s, longer); !slices.Equal(a, b) || e != api.OK {
			t.Fatalf("%v, %v: %v, %d, not %v", s, longer, b, e, a)
		}
	})
}
