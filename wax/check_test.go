package wax_test

import (
	"math"
	"strings"
	"testing"

	"stearin/api"
	"stearin/wax"
)

// P1.1
func TestNameIsLettersAndSingleHyphens(t *testing.T) {
	for _, s := range []string{"a", "z", "bees", "bees-wax", "a-b-c", strings.Repeat("z", 20), "a-" + strings.Repeat("b", 18)} {
		if !wax.Name(s) {
			t.Errorf("%q is no name", s)
		}
	}
	for _, s := range []string{"", "-", "--", "-a", "a-", "a--b", "a---b", strings.Repeat("z", 21), strings.Repeat("z", 100000), strings.Repeat("a", 19) + "-", "A", "aB", "a1", "0", "a b", " a", "a ", "a_b", "a\x00", "a\n", "{", "`", "\x80", "a\xff", "ä", "aä", "a\u2010b", "ａ"} {
		if wax.Name(s) {
			t.Errorf("%q is a name", s)
		}
	}
	for b := range 256 {
		s := string([]byte{byte(b)})
		if wax.Name(s) != (b >= 'a' && b <= 'z') {
			t.Errorf("Name of the byte %d", b)
		}
		if wax.Name("a"+s+"a") != (b >= 'a' && b <= 'z' || b == '-') {
			t.Errorf("Name of the byte %d between letters", b)
		}
	}
}

// broken is an example table with a change, and what Check returns of it.
type broken struct {
	name     string
	change   func(x *api.WxTable)
	part, at int
	e        api.Errno
}

// outside are numbers of which none is from 0 to most.
func outside(most int) []int {
	return []int{-1, most + 1, -1000000, 1000000, math.MinInt, math.MaxInt, math.MinInt32, math.MaxInt32}
}

// brokenTables are tables with errors, and the ones at the limits, which have none.
func brokenTables() []broken {
	list := []broken{
		{"T", func(x *api.WxTable) {}, 0, 0, api.OK},
		{"the zero value", func(x *api.WxTable) { *x = api.WxTable{} }, 1, 0, api.ErrLong},
		{"empty, not nil", func(x *api.WxTable) { x.Props, x.Kinds = []api.WxProp{}, []api.WxKind{} }, 1, 0, api.ErrLong},
		{"no properties", func(x *api.WxTable) { x.Props, x.Purity = nil, 0 }, 1, 0, api.ErrLong},
		{"no kinds", func(x *api.WxTable) { x.Kinds, x.Purity = nil, 0 }, 1, 0, api.ErrLong},
		{"six properties", func(x *api.WxTable) { x.Props = make([]api.WxProp, 6) }, 1, 0, api.ErrLong},
		{"nine kinds", func(x *api.WxTable) { x.Kinds = make([]api.WxKind, 9) }, 1, 0, api.ErrLong},
		{"many kinds", func(x *api.WxTable) { x.Kinds = make([]api.WxKind, 100000) }, 1, 0, api.ErrLong},
		{"purity before names", func(x *api.WxTable) { x.Purity, x.Props[0].Name, x.Kinds[0].Name = 0, "", "" }, 1, 0, api.ErrRange},
		{"purity 1", func(x *api.WxTable) { x.Purity = 1 }, 0, 0, api.OK},
		{"purity 1000", func(x *api.WxTable) { x.Purity = 1000 }, 0, 0, api.OK},
		{"a property without name", func(x *api.WxTable) { x.Props[0].Name, x.Props[1].Name = "", "" }, 2, 0, api.ErrForm},
		{"form before range", func(x *api.WxTable) { x.Props[1].Name, x.Props[1].Error = "Acid", -1 }, 2, 1, api.ErrForm},
		{"form before twice", func(x *api.WxTable) { x.Props[0].Name, x.Props[1].Name = "a-", "a-" }, 2, 0, api.ErrForm},
		{"a property twice", func(x *api.WxTable) { x.Props[1].Name, x.Props[1].Error = "melt", -1 }, 2, 1, api.ErrTwice},
		{"the first property with an error", func(x *api.WxTable) { x.Props[0].Error, x.Props[1].Name = -1, "" }, 2, 0, api.ErrRange},
		{"properties before kinds", func(x *api.WxTable) { x.Props[1].Error, x.Kinds[0].Name = -1, "" }, 2, 1, api.ErrRange},
		{"errors at the limits", func(x *api.WxTable) { x.Props[0].Error, x.Props[1].Error = 0, 10000 }, 0, 0, api.OK},
		{"a kind without name", func(x *api.WxTable) { x.Kinds[1].Name, x.Kinds[1].Props = "", nil }, 3, 1, api.ErrForm},
		{"a kind twice", func(x *api.WxTable) { x.Kinds[2].Name, x.Kinds[2].Props = "bees", nil }, 3, 2, api.ErrTwice},
		{"a kind named as a property", func(x *api.WxTable) { x.Kinds[2].Name = "melt" }, 0, 0, api.OK},
		{"kinds named as the lines", func(x *api.WxTable) { x.Kinds[0].Name, x.Kinds[1].Name = "tests", "pure" }, 0, 0, api.OK},
		{"a range too few", func(x *api.WxTable) { x.Kinds[2].Props = []api.Span{span(-1, 0)} }, 3, 2, api.ErrLong},
		{"a range too many", func(x *api.WxTable) { x.Kinds[0].Props = append(x.Kinds[0].Props, span(2, 1)) }, 3, 0, api.ErrLong},
		{"no range", func(x *api.WxTable) { x.Kinds[0].Props = nil }, 3, 0, api.ErrLong},
		{"range before order", func(x *api.WxTable) { x.Kinds[1].Props = []api.Span{span(2, 1), span(0, 100001)} }, 3, 1, api.ErrRange},
		{"an order that is wrong", func(x *api.WxTable) { x.Kinds[1].Props[1] = span(1, 0) }, 3, 1, api.ErrArg},
		{"the first order that is wrong", func(x *api.WxTable) { x.Kinds[1].Props[0], x.Kinds[2].Name = span(541, 540), "" }, 3, 1, api.ErrArg},
		{"ranges at the limits", func(x *api.WxTable) {
			x.Kinds[0].Props = []api.Span{span(0, 100000), span(0, 0)}
			x.Kinds[1].Props = []api.Span{span(100000, 100000), span(5, 5)}
		}, 0, 0, api.OK},
		{"as much as there can be", func(x *api.WxTable) { *x = fullTable() }, 0, 0, api.OK},
	}
	for _, n := range append(outside(1000), 0) {
		list = append(list, broken{"purity", func(x *api.WxTable) { x.Purity = n }, 1, 0, api.ErrRange})
	}
	for _, n := range outside(10000) {
		list = append(list, broken{"error", func(x *api.WxTable) { x.Props[1].Error = n }, 2, 1, api.ErrRange})
	}
	for _, n := range outside(100000) {
		list = append(list,
			broken{"lower end", func(x *api.WxTable) { x.Kinds[1].Props[1].Lo = n }, 3, 1, api.ErrRange},
			broken{"upper end", func(x *api.WxTable) { x.Kinds[1].Props[0].Hi = n }, 3, 1, api.ErrRange})
	}
	return list
}

// fullTable has as many properties and kinds as there can be, with the longest names and numbers.
func fullTable() api.WxTable {
	x := api.WxTable{Purity: 1000}
	for i := range 5 {
		x.Props = append(x.Props, api.WxProp{Name: strings.Repeat("p", 19) + string(rune('a'+i)), Error: 10000})
	}
	for i := range 8 {
		k := api.WxKind{Name: strings.Repeat("k", 19) + string(rune('a'+i))}
		for range 5 {
			k.Props = append(k.Props, span(100000, 100000))
		}
		x.Kinds = append(x.Kinds, k)
	}
	return x
}

// P1.1
func TestCheckNamesTheFirstError(t *testing.T) {
	for _, c := range brokenTables() {
		x := example()
		c.change(&x)
		if part, at, e := wax.Check(x); part != c.part || at != c.at || e != c.e {
			t.Errorf("%s: Check = %d, %d, %d, not %d, %d, %d", c.name, part, at, e, c.part, c.at, c.e)
		}
	}
}

// All functions with a table but Check return its error first, and nothing else.
func TestTheErrorOfTheTableComesFirst(t *testing.T) {
	for _, c := range brokenTables() {
		x := example()
		c.change(&x)
		if c.e == api.OK {
			continue
		}
		wrong := []int{-2, math.MaxInt, 0, 0, 0, 0, 0}
		if s, e := wax.Mixed(x, wrong, 9, 9); s != (api.Span{}) || e != c.e {
			t.Errorf("%s: Mixed = %v, %d", c.name, s, e)
		}
		if l, e := wax.Sets(x, wrong); len(l) != 0 || e != c.e {
			t.Errorf("%s: Sets = %v, %d", c.name, l, e)
		}
		if s, v, e := wax.Sold(x, wrong, 9); s != (api.Span{}) || v != 0 || e != c.e {
			t.Errorf("%s: Sold = %v, %d, %d", c.name, s, v, e)
		}
		if must, may, e := wax.Within(x, wrong); len(must) != 0 || len(may) != 0 || e != c.e {
			t.Errorf("%s: Within = %v, %v, %d", c.name, must, may, e)
		}
		if n, e := wax.Detect(x, 9, 9); n != 0 || e != c.e {
			t.Errorf("%s: Detect = %d, %d", c.name, n, e)
		}
		if s, e := wax.Write(x); s != "" || e != c.e {
			t.Errorf("%s: Write = %q, %d", c.name, s, e)
		}
	}
}

// The error of readings, of all functions that have some.
func TestTheErrorOfReadings(t *testing.T) {
	type wrong struct {
		readings []int
		e        api.Errno
	}
	list := []wrong{{nil, api.ErrLong}, {[]int{}, api.ErrLong}, {[]int{-2}, api.ErrLong}, {[]int{615, 16, 0}, api.ErrLong}, {[]int{-2, 16, 0}, api.ErrLong}, {make([]int, 100000), api.ErrLong}, {[]int{-1, -1}, api.OK}, {[]int{0, 100000}, api.OK}}
	for _, n := range outside(100000) {
		if n != api.WxUnknown {
			list = append(list, wrong{[]int{615, n}, api.ErrRange}, wrong{[]int{n, -1}, api.ErrRange})
		}
	}
	for _, c := range list {
		after := c.e
		if after == api.OK {
			after = api.ErrNone
		}
		if s, e := wax.Mixed(example(), c.readings, 9, 9); s != (api.Span{}) || e != after {
			t.Errorf("%v: Mixed = %v, %d", c.readings, s, e)
		}
		if s, v, e := wax.Sold(example(), c.readings, 9); s != (api.Span{}) || v != 0 || e != after {
			t.Errorf("%v: Sold = %v, %d, %d", c.readings, s, v, e)
		}
		if l, e := wax.Sets(example(), c.readings); e != c.e || e != api.OK && len(l) != 0 {
			t.Errorf("%v: Sets = %v, %d", c.readings, l, e)
		}
		if must, may, e := wax.Within(example(), c.readings); e != c.e && (c.e != api.OK || e != api.ErrDown) || e != api.OK && len(must)+len(may) != 0 {
			t.Errorf("%v: Within = %v, %v, %d", c.readings, must, may, e)
		}
	}
}

// Which kinds are no kinds, and the order of these errors.
func TestTheErrorOfKinds(t *testing.T) {
	x, none := example(), []int{100000, 100000}
	for _, n := range []int{-1, 3, 8, 64, math.MinInt, math.MaxInt} {
		if s, e := wax.Mixed(x, none, n, 0); s != (api.Span{}) || e != api.ErrNone {
			t.Errorf("%d: Mixed = %v, %d", n, s, e)
		}
		if s, e := wax.Mixed(x, none, 0, n); s != (api.Span{}) || e != api.ErrNone {
			t.Errorf("%d: Mixed = %v, %d", n, s, e)
		}
		if _, e := wax.Mixed(x, none, n, n); e != api.ErrNone {
			t.Errorf("%d: Mixed: %d", n, e)
		}
		if s, v, e := wax.Sold(x, none, n); s != (api.Span{}) || v != 0 || e != api.ErrNone {
			t.Errorf("%d: Sold = %v, %d, %d", n, s, v, e)
		}
		for _, pair := range [][2]int{{n, 0}, {0, n}, {n, n}} {
			if least, e := wax.Detect(x, pair[0], pair[1]); least != 0 || e != api.ErrNone {
				t.Errorf("%v: Detect = %d, %d", pair, least, e)
			}
		}
	}
	for k := range 3 {
		if s, e := wax.Mixed(x, none, k, k); s != (api.Span{}) || e != api.ErrArg {
			t.Errorf("%d: Mixed = %v, %d", k, s, e)
		}
		if n, e := wax.Detect(x, k, k); n != 0 || e != api.ErrArg {
			t.Errorf("%d: Detect = %d, %d", k, n, e)
		}
		if s, v, e := wax.Sold(x, none, k); s != (api.Span{}) || v != 0 || e != api.ErrDown {
			t.Errorf("%d: Sold = %v, %d, %d", k, s, v, e)
		}
	}
}
