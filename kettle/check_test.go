package kettle_test

import (
	"math"
	"slices"
	"testing"

	"stearin/api"
	"stearin/kettle"
)

// broken is the example kettle with a change, and what Check returns of it.
type broken struct {
	name     string
	change   func(k *api.KtKettle)
	part, at int
	e        api.Errno
}

// brokenKettles are kettles with errors, and the ones at the limits, which have none.
func brokenKettles() []broken {
	list := []broken{
		{"K", func(k *api.KtKettle) {}, 0, 0, api.OK},
		{"as much as there can be", func(k *api.KtKettle) { *k = full() }, 0, 0, api.OK},
		{"as little as there can be", func(k *api.KtKettle) {
			*k = api.KtKettle{Step: 1, Fall: 1, Stats: [2]api.KtStat{stat(0, 1, -20, -20), stat(0, 1, 20, 20)}}
		}, 0, 0, api.OK},
		{"the zero value", func(k *api.KtKettle) { *k = api.KtKettle{} }, 1, 0, api.ErrRange},
		{"the order of Loss", func(k *api.KtKettle) { k.Loss = span(3, 2) }, 1, 0, api.ErrArg},
		{"the order of Loss, from end to end", func(k *api.KtKettle) { k.Loss = span(10, 0) }, 1, 0, api.ErrArg},
		{"one loss", func(k *api.KtKettle) { k.Loss = span(10, 10) }, 0, 0, api.OK},
		{"Fall before the order of Loss", func(k *api.KtKettle) { k.Fall, k.Loss = 0, span(3, 2) }, 1, 0, api.ErrRange},
		{"an end before the order of Loss", func(k *api.KtKettle) { k.Loss = span(11, 2) }, 1, 0, api.ErrRange},
		{"the other end before the order of Loss", func(k *api.KtKettle) { k.Loss = span(2, -1) }, 1, 0, api.ErrRange},
		{"the range of Loss before a thermostat", func(k *api.KtKettle) { k.Loss, k.Stats[0].On = span(2, 11), -1 }, 1, 0, api.ErrRange},
		{"the order of Loss before a thermostat", func(k *api.KtKettle) { k.Loss, k.Stats[0].On = span(2, 1), -1 }, 1, 0, api.ErrArg},
		{"On as Off", func(k *api.KtKettle) { k.Stats[0].On = 62 }, 2, 0, api.ErrArg},
		{"On above Off", func(k *api.KtKettle) { k.Stats[1].On = 67 }, 2, 1, api.ErrArg},
		{"On just below Off", func(k *api.KtKettle) { k.Stats[0].On, k.Stats[1].On = 61, 65 }, 0, 0, api.OK},
		{"On and Off as high as can be", func(k *api.KtKettle) { k.Stats[0].On, k.Stats[0].Off = 250, 250 }, 2, 0, api.ErrArg},
		{"On and Off as low as can be", func(k *api.KtKettle) { k.Stats[1].On, k.Stats[1].Off = 0, 0 }, 2, 1, api.ErrArg},
		{"On far above its range", func(k *api.KtKettle) { k.Stats[1].On, k.Stats[1].Off = math.MaxInt, 0 }, 2, 1, api.ErrRange},
		{"the order of Err", func(k *api.KtKettle) { k.Stats[0].Err = span(1, 0) }, 2, 0, api.ErrArg},
		{"the order of the second Err", func(k *api.KtKettle) { k.Stats[1].Err = span(20, -20) }, 2, 1, api.ErrArg},
		{"one number of Err", func(k *api.KtKettle) { k.Stats[0].Err, k.Stats[1].Err = span(-20, -20), span(20, 20) }, 0, 0, api.OK},
		{"the order of both", func(k *api.KtKettle) { k.Stats[1] = stat(66, 66, 1, 0) }, 2, 1, api.ErrArg},
		{"the range of Err before On as Off", func(k *api.KtKettle) { k.Stats[0] = stat(62, 62, 0, 21) }, 2, 0, api.ErrRange},
		{"the range of Off before the order of Err", func(k *api.KtKettle) { k.Stats[1] = stat(62, 251, 1, 0) }, 2, 1, api.ErrRange},
		{"the range of Err before its order", func(k *api.KtKettle) { k.Stats[1].Err = span(21, 0) }, 2, 1, api.ErrRange},
		{"the first thermostat with an error", func(k *api.KtKettle) { k.Stats[0].Err, k.Stats[1].On = span(1, 0), -1 }, 2, 0, api.ErrArg},
		{"the first thermostat with an error, in its range", func(k *api.KtKettle) { k.Stats[0].Off, k.Stats[1].On = 251, 66 }, 2, 0, api.ErrRange},
	}
	return append(list, brokenNumbers()...)
}

// brokenNumbers are kettles of which one number is not in its range, or at one of its ends.
func brokenNumbers() []broken {
	var list []broken
	add := func(name string, part, at, least, most int, number func(k *api.KtKettle) *int) {
		for _, n := range outside(least, most) {
			list = append(list, broken{name, func(k *api.KtKettle) { *number(k) = n }, part, at, api.ErrRange})
		}
		for _, n := range []int{least, most} {
			list = append(list, broken{name + ", at an end", func(k *api.KtKettle) { *number(k) = n }, 0, 0, api.OK})
		}
	}
	add("step", 1, 0, 1, 12, func(k *api.KtKettle) *int { return &k.Step })
	add("fall", 1, 0, 1, 12, func(k *api.KtKettle) *int { return &k.Fall })
	add("most", 1, 0, 0, 12, func(k *api.KtKettle) *int { return &k.Most })
	// The other end is as far away as it can be, so that the order is kept.
	add("loss at least", 1, 0, 0, 10, func(k *api.KtKettle) *int { k.Loss.Hi = 10; return &k.Loss.Lo })
	add("loss at most", 1, 0, 0, 10, func(k *api.KtKettle) *int { k.Loss.Lo = 0; return &k.Loss.Hi })
	for i := range 2 {
		add("wrong by at least", 2, i, -20, 20, func(k *api.KtKettle) *int { k.Stats[i].Err.Hi = 20; return &k.Stats[i].Err.Lo })
		add("wrong by at most", 2, i, -20, 20, func(k *api.KtKettle) *int { k.Stats[i].Err.Lo = -20; return &k.Stats[i].Err.Hi })
		for _, n := range outside(0, 250) {
			list = append(list,
				broken{"on", func(k *api.KtKettle) { k.Stats[i].On = n }, 2, i, api.ErrRange},
				broken{"off", func(k *api.KtKettle) { k.Stats[i].Off = n }, 2, i, api.ErrRange})
		}
		list = append(list,
			broken{"on as low as can be", func(k *api.KtKettle) { k.Stats[i].On = 0 }, 0, 0, api.OK},
			broken{"off as high as can be", func(k *api.KtKettle) { k.Stats[i].Off = 250 }, 0, 0, api.OK})
	}
	return list
}

// P6.1
func TestCheckNamesTheFirstError(t *testing.T) {
	for _, c := range brokenKettles() {
		if part, at, e := kettle.Check(with(c.change)); part != c.part || at != c.at || e != c.e {
			t.Errorf("%s: Check = %d, %d, %d, not %d, %d, %d", c.name, part, at, e, c.part, c.at, c.e)
		}
	}
}

// given are the arguments of all functions.
type given struct {
	k                          api.KtKettle
	s                          api.KtState
	t                          api.KtTruth
	which, warm, flash, margin int
	calls                      [2]bool
	log                        []api.KtNote
}

// plain are arguments without an error.
func plain() given {
	return given{k: example(), s: start(), t: api.KtTruth{Which: -1, Minutes: likeThis(minute(0, 0, 1), 2)}, flash: 80, margin: 8, calls: both(true)}
}

// answers are the errors of all functions but Check.
type answers struct{ run, hottest, soonest, margin, setting, convict api.Errno }

// ask calls all functions but Check, and reports an error that comes with another result.
func ask(t *testing.T, g given) answers {
	t.Helper()
	var a answers
	var states []api.KtState
	var hottest, soonest, margin, setting, who int
	var since []api.Span
	states, a.run = kettle.Run(g.k, g.s, g.t)
	hottest, a.hottest = kettle.Hottest(g.k, g.s, g.which)
	soonest, a.soonest = kettle.Soonest(g.k, g.s, g.which, g.warm)
	margin, a.margin = kettle.Margin(g.k, g.s, g.flash)
	setting, a.setting = kettle.Setting(g.k, g.s, g.flash, g.margin)
	who, since, a.convict = kettle.Convict(g.k, g.calls, g.log)
	for i, c := range []struct {
		e    api.Errno
		zero bool
	}{
		{a.run, len(states) == 0},
		{a.hottest, hottest == 0},
		{a.soonest, soonest == 0},
		{a.margin, margin == 0},
		{a.setting, setting == 0},
		{a.convict, who == 0 && len(since) == 0},
	} {
		if c.e != api.OK && !c.zero || c.e < api.OK || c.e > api.ErrDown {
			t.Fatalf("%v: the function %d returns the error %d and more", g, i, c.e)
		}
	}
	return a
}

// tooLong is a log with a note too many.
func tooLong() []api.KtNote { return make([]api.KtNote, 201) }

// P6.1, P1: all functions but Check return the error of the kettle first, whatever else is wrong.
func TestTheErrorOfTheKettleComesFirst(t *testing.T) {
	for _, c := range brokenKettles() {
		if c.e == api.OK {
			continue
		}
		good := plain()
		for _, g := range []given{
			good,
			{s: api.KtState{Wax: -1}, t: api.KtTruth{Which: 2}, which: 2, flash: -1, margin: -1, log: tooLong()},
			{s: start(), t: api.KtTruth{From: 201}, which: -2, flash: 401, margin: 401, log: []api.KtNote{{Calls: both(true)}}},
			{t: api.KtTruth{Minutes: make([]api.KtMinute, 201)}, which: math.MaxInt, warm: math.MaxInt},
		} {
			g.k = with(c.change)
			if a := ask(t, g); a != (answers{c.e, c.e, c.e, c.e, c.e, c.e}) {
				t.Errorf("%s: %v, not %d", c.name, a, c.e)
			}
		}
	}
}

// P6.2, P6.3, P6.4: then comes the error of the state, in all functions that have one.
func TestTheErrorOfTheState(t *testing.T) {
	var states []api.KtState
	for _, n := range outside(0, 400) {
		states = append(states, api.KtState{Wax: n}, api.KtState{Wax: n, Jacket: 4, Calls: both(true)})
	}
	for _, n := range append(outside(0, 4), 12, 13) {
		states = append(states, api.KtState{Jacket: n}, api.KtState{Wax: 400, Jacket: n})
	}
	for _, s := range states {
		for _, g := range []given{
			plain(),
			{t: api.KtTruth{Which: 2}, which: 2, flash: -1, margin: -1},
			{t: api.KtTruth{From: 201, Minutes: make([]api.KtMinute, 201)}, which: -2, warm: math.MaxInt, flash: 401, margin: 401},
		} {
			g.k, g.s = example(), s
			if a := ask(t, g); a != (answers{api.ErrRange, api.ErrRange, api.ErrRange, api.ErrRange, api.ErrRange, api.OK}) {
				t.Errorf("%v: %v", s, a)
			}
		}
	}
	// At the limits there is none; the heat of the jacket is one of this kettle's own.
	for most := range 13 {
		k := with(func(k *api.KtKettle) { k.Most = most })
		for _, s := range []api.KtState{{}, {Wax: 400}, {Jacket: most}, {Wax: 400, Jacket: most}} {
			g := plain()
			g.k, g.s = k, s
			if a := ask(t, g); a.run != api.OK || a.hottest != api.OK || a.margin != api.OK {
				t.Errorf("%v: %v", s, a)
			}
		}
		g := plain()
		g.k, g.s = k, api.KtState{Jacket: most + 1}
		if a := ask(t, g); a.run != api.ErrRange || a.hottest != api.ErrRange || a.margin != api.ErrRange {
			t.Errorf("a jacket of %d, of %d: %v", most+1, most, a)
		}
	}
}

// P6.2, P6.3: there are no other thermostats than 0 and 1.
func TestTheErrorOfTheNumber(t *testing.T) {
	for _, n := range append(outside(-1, 1), 3, -3) {
		for _, from := range []int{0, -1} {
			g := plain()
			g.which, g.warm, g.t = n, math.MaxInt, api.KtTruth{Which: n, From: from, Minutes: make([]api.KtMinute, 201*-from)}
			if a := ask(t, g); a != (answers{api.ErrNone, api.ErrNone, api.ErrNone, api.OK, api.OK, api.OK}) {
				t.Errorf("%d: %v", n, a)
			}
		}
	}
	for n := -1; n <= 1; n++ {
		g := plain()
		g.which, g.t.Which = n, n
		if a := ask(t, g); a != (answers{}) {
			t.Errorf("%d: %v", n, a)
		}
	}
}

// P6.2: the errors of a truth, in their order.
func TestTheErrorOfTheTruth(t *testing.T) {
	good, wild := minute(0, 1, 2), minute(1, 2, 3)
	for which := -1; which <= 1; which++ {
		for _, n := range outside(0, 200) {
			for _, minutes := range [][]api.KtMinute{nil, likeThis(good, 3), likeThis(wild, 201)} {
				g := plain()
				g.t = api.KtTruth{Which: which, From: n, Minutes: minutes}
				if a := ask(t, g); a.run != api.ErrRange {
					t.Errorf("%v: %d", g.t, a.run)
				}
			}
		}
		for _, c := range []struct {
			m     api.KtMinute
			times int
			e     api.Errno
		}{{good, 0, api.OK}, {good, 200, api.OK}, {good, 201, api.ErrLong}, {good, 1000, api.ErrLong}, {wild, 200, api.ErrRange}, {wild, 201, api.ErrLong}} {
			for _, from := range []int{0, 1, 200} {
				g := plain()
				g.t = api.KtTruth{Which: which, From: from, Minutes: likeThis(c.m, c.times)}
				if a := ask(t, g); a.run != c.e {
					t.Errorf("%d times %v: %d, not %d", c.times, c.m, a.run, c.e)
				}
			}
		}
	}
}

// P6.2: each number of each minute is of its own span.
func TestTheNumbersOfAMinute(t *testing.T) {
	k := with(func(k *api.KtKettle) { k.Stats[0].Err, k.Stats[1].Err, k.Loss = span(-3, -1), span(2, 4), span(6, 8) })
	good := minute(-2, 3, 7)
	check := func(least, most int, number func(m *api.KtMinute) *int) {
		for n, e := range map[int]api.Errno{least: api.OK, least + 1: api.OK, most: api.OK} {
			m := good
			*number(&m) = n
			g := plain()
			g.k, g.t = k, api.KtTruth{Which: -1, Minutes: []api.KtMinute{m}}
			if a := ask(t, g); a.run != e {
				t.Errorf("%v: %d", m, a.run)
			}
		}
		for _, n := range outside(least, most) {
			m := good
			*number(&m) = n
			for at := range 3 {
				g := plain()
				g.k, g.t = k, api.KtTruth{Which: at - 1, Minutes: slices.Concat(likeThis(good, at), []api.KtMinute{m}, likeThis(good, 2-at))}
				if a := ask(t, g); a.run != api.ErrRange {
					t.Errorf("%v: %d", g.t, a.run)
				}
			}
		}
	}
	check(-3, -1, func(m *api.KtMinute) *int { return &m.Errs[0] })
	check(2, 4, func(m *api.KtMinute) *int { return &m.Errs[1] })
	check(6, 8, func(m *api.KtMinute) *int { return &m.Loss })
}

// P6.4: the flash point and the margin.
func TestTheErrorOfTheFlashPoint(t *testing.T) {
	for _, n := range outside(0, 400) {
		for _, margin := range []int{0, -1, 401} {
			g := plain()
			g.flash, g.margin = n, margin
			if a := ask(t, g); a.margin != api.ErrRange || a.setting != api.ErrRange {
				t.Errorf("a flash point of %d: %v", n, a)
			}
		}
		// Also with a flash point at which nothing keeps a margin.
		for _, flash := range []int{0, 80, 400} {
			g := plain()
			g.flash, g.margin = flash, n
			if a := ask(t, g); a.margin != api.OK || a.setting != api.ErrRange {
				t.Errorf("a margin of %d: %v", n, a)
			}
		}
	}
	for _, c := range []struct {
		flash, margin int
		e             api.Errno
	}{{0, 0, api.ErrDown}, {400, 0, api.OK}, {400, 400, api.ErrDown}, {0, 400, api.ErrDown}} {
		g := plain()
		g.flash, g.margin = c.flash, c.margin
		if a := ask(t, g); a.margin != api.OK || a.setting != c.e {
			t.Errorf("%v: %v", c, a)
		}
	}
}

// P6.5: a log that is too long comes before one in which nothing can be stuck.
func TestTheErrorOfTheLog(t *testing.T) {
	wrong := api.KtNote{Readings: [2]int{100, 100}, Calls: both(true)}
	never := api.KtNote{Readings: [2]int{100, 100}, Calls: [2]bool{false, true}}
	for _, c := range []struct {
		log []api.KtNote
		e   api.Errno
	}{
		{slices.Repeat([]api.KtNote{wrong}, 200), api.ErrTwice}, {slices.Repeat([]api.KtNote{wrong}, 201), api.ErrLong}, {slices.Repeat([]api.KtNote{wrong}, 1000), api.ErrLong},
		{slices.Repeat([]api.KtNote{never, wrong}, 100), api.ErrDown}, {slices.Repeat([]api.KtNote{never, wrong}, 101), api.ErrLong},
	} {
		g := plain()
		g.log = c.log
		if a := ask(t, g); a.convict != c.e {
			t.Errorf("%d notes: %d, not %d", len(c.log), a.convict, c.e)
		}
	}
}
