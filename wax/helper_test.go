package wax_test

import (
	"iter"
	"math/rand"

	"stearin/api"
)

// span is the range from one number to another one.
func span(lo, hi int) api.Span { return api.Span{Lo: lo, Hi: hi} }

// example is the table T of the chapter.
func example() api.WxTable {
	return api.WxTable{
		Props: []api.WxProp{{Name: "melt", Error: 5}, {Name: "acid", Error: 2}},
		Kinds: []api.WxKind{
			{Name: "bees", Props: []api.Span{span(620, 640), span(17, 22)}},
			{Name: "paraffin", Props: []api.Span{span(540, 580), span(0, 0)}},
			{Name: "tallow", Props: []api.Span{span(420, 460), span(2, 10)}},
		},
		Purity: 950,
	}
}

// exampleText is the text of T.
const exampleText = "tests melt 5 acid 2\npure 950\nbees 620 640 17 22\nparaffin 540 580 0 0\ntallow 420 460 2 10\n"

// single is a table with one property and a kind for each of its ranges.
func single(wrong int, ranges ...api.Span) api.WxTable {
	t := api.WxTable{Props: []api.WxProp{{Name: "melt", Error: wrong}}, Purity: 900}
	for i, s := range ranges {
		t.Kinds = append(t.Kinds, api.WxKind{Name: string(rune('a' + i)), Props: []api.Span{s}})
	}
	return t
}

// clone is a copy of a table that shares no memory with it.
func clone(t api.WxTable) api.WxTable {
	c := api.WxTable{Props: append([]api.WxProp(nil), t.Props...), Purity: t.Purity}
	for _, k := range t.Kinds {
		c.Kinds = append(c.Kinds, api.WxKind{Name: k.Name, Props: append([]api.Span(nil), k.Props...)})
	}
	return c
}

// mixture is x parts of a, and the others of b; of one kind alone both are this kind, and x is 1000.
type mixture struct{ a, b, x int }

// parts returns how many parts of a kind are in the mixture.
func (m mixture) parts(kind int) int {
	switch kind {
	case m.a:
		return m.x
	case m.b:
		return 1000 - m.x
	}
	return 0
}

// set returns the kinds of the mixture.
func (m mixture) set() int { return 1<<m.a | 1<<m.b }

// ends returns a thousand times the least and the greatest value of a property.
func (m mixture) ends(t api.WxTable, prop int) (lo, hi int) {
	a, b := t.Kinds[m.a].Props[prop], t.Kinds[m.b].Props[prop]
	return m.x*a.Lo + (1000-m.x)*b.Lo, m.x*a.Hi + (1000-m.x)*b.Hi
}

// explains reports whether the mixture explains readings.
func (m mixture) explains(t api.WxTable, readings []int) bool {
	for p, r := range readings {
		lo, hi := m.ends(t, p)
		if r >= 0 && (lo > 1000*(r+t.Props[p].Error) || hi < 1000*(r-t.Props[p].Error)) {
			return false
		}
	}
	return true
}

// mixtures yields each mixture of a table, one after the other.
func mixtures(t api.WxTable) iter.Seq[mixture] {
	return func(yield func(mixture) bool) {
		for a := range t.Kinds {
			if !yield(mixture{a, a, 1000}) {
				return
			}
			for b := a + 1; b < len(t.Kinds); b++ {
				for x := 1; x < 1000; x++ {
					if !yield(mixture{a, b, x}) {
						return
					}
				}
			}
		}
	}
}

// anySpan is a random range within 0 to most, often a narrow one.
func anySpan(r *rand.Rand, most int) api.Span {
	lo := r.Intn(most + 1)
	switch r.Intn(3) {
	case 0:
		return span(lo, lo)
	case 1:
		return span(lo, min(most, lo+r.Intn(most/10+2)))
	}
	return span(lo, lo+r.Intn(most-lo+1))
}

// anyTable is a random table without an error, with values up to a scale.
func anyTable(r *rand.Rand) api.WxTable {
	most := []int{6, 40, 1000, api.MaxWxValue}[r.Intn(4)]
	t := api.WxTable{Purity: 1 + r.Intn(1000)}
	for i := range 1 + r.Intn(5) {
		wrong := []int{0, 1, r.Intn(most/20 + 1), r.Intn(min(most, api.MaxWxError) + 1)}[r.Intn(4)]
		t.Props = append(t.Props, api.WxProp{Name: "p-" + string(rune('a'+i)), Error: wrong})
	}
	for i := range 1 + r.Intn(8) {
		k := api.WxKind{Name: "k-" + string(rune('a'+i))}
		for range t.Props {
			k.Props = append(k.Props, anySpan(r, most))
		}
		t.Kinds = append(t.Kinds, k)
	}
	return t
}

// anyMixture is a random mixture, often one with parts at an end.
func anyMixture(r *rand.Rand, t api.WxTable) mixture {
	a, b := r.Intn(len(t.Kinds)), r.Intn(len(t.Kinds))
	switch {
	case a == b:
		return mixture{a, a, 1000}
	case r.Intn(4) == 0:
		return mixture{a, b, []int{1, 999, t.Purity, t.Purity - 1}[r.Intn(4)]}.whole()
	}
	return mixture{a, b, 1 + r.Intn(999)}
}

// whole makes a mixture whose parts are all of one kind one of this kind alone.
func (m mixture) whole() mixture {
	switch m.x {
	case 0:
		return mixture{m.b, m.b, 1000}
	case 1000:
		return mixture{m.a, m.a, 1000}
	}
	return m
}

// anyReadings are readings that a mixture explains in a random truth, whose numbers are tenths; some are not read.
func anyReadings(r *rand.Rand, t api.WxTable, m mixture) []int {
	tenths := func(s api.Span) int {
		switch r.Intn(4) {
		case 0:
			return 10 * s.Lo
		case 1:
			return 10 * s.Hi
		}
		return 10*s.Lo + r.Intn(10*(s.Hi-s.Lo)+1)
	}
	var readings []int
	for p := range t.Props {
		value := m.x * tenths(t.Kinds[m.a].Props[p])
		value += (1000 - m.x) * tenths(t.Kinds[m.b].Props[p])
		wrong := 10000 * t.Props[p].Error
		least, most := max(0, (value-wrong+9999)/10000), min(api.MaxWxValue, (value+wrong)/10000)
		reading := api.WxUnknown
		if least <= most && r.Intn(5) > 0 {
			reading = []int{least, most, least + r.Intn(most-least+1)}[r.Intn(3)]
		}
		readings = append(readings, reading)
	}
	return readings
}

// eachCase calls a test with random tables, and readings that the mixture explains.
func eachCase(seed int64, times int, test func(r *rand.Rand, t api.WxTable, readings []int, m mixture)) {
	r := rand.New(rand.NewSource(seed))
	for range times {
		t := anyTable(r)
		m := anyMixture(r, t)
		test(r, t, anyReadings(r, t, m), m)
	}
}
