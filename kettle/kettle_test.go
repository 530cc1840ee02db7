package kettle_test

import (
	"math"
	"slices"
	"testing"

	"stearin/api"
	"stearin/kettle"
)

// state is a warmth, a heat of the jacket, and which thermostats call.
func state(wax, jacket int, first, second bool) api.KtState {
	return api.KtState{Wax: wax, Jacket: jacket, Calls: [2]bool{first, second}}
}

// P6.2: the example of the chapter.
func TestRunExample(t *testing.T) {
	got, e := kettle.Run(example(), start(), api.KtTruth{Which: -1, Minutes: likeThis(minute(0, 0, 1), 5)})
	want := []api.KtState{state(61, 2, true, true), state(64, 4, true, true), state(66, 3, false, true), state(67, 2, false, false), state(67, 1, false, false)}
	if !slices.Equal(got, want) || e != api.OK {
		t.Errorf("Run = %v, %d, not %v", got, e, want)
	}
	// What the note behind the examples tells of 0, if it sticks.
	got, e = kettle.Run(example(), start(), api.KtTruth{Which: 0, From: 2, Minutes: slices.Concat(likeThis(minute(0, 0, 1), 3), likeThis(minute(0, -1, 1), 1), likeThis(minute(0, 1, 1), 4))})
	want = []api.KtState{state(61, 2, true, true), state(64, 4, true, true), state(67, 4, true, true), state(70-1, 3, true, false), state(70, 2, true, false), state(70, 1, true, false), state(69, 0, true, false), state(68, 0, true, false)}
	if !slices.Equal(got, want) || e != api.OK {
		t.Errorf("Run = %v, %d, not %v", got, e, want)
	}
}

// P6.2: in a minute a thermostat calls up to On, does not from Off on, and does in between as before.
func TestWhatAThermostatDoes(t *testing.T) {
	k := with(func(k *api.KtKettle) { k.Stats = [2]api.KtStat{stat(60, 63, -2, 2), stat(50, 250, -20, 20)} })
	for reading := 55; reading <= 70; reading++ {
		for err := -2; err <= 2; err++ {
			for _, before := range []bool{false, true} {
				want := reading <= 60 || reading < 63 && before
				s := state(reading-err, 0, before, true)
				got, e := kettle.Run(k, s, api.KtTruth{Which: -1, Minutes: likeThis(minute(err, 0, 1), 1)})
				if e != api.OK || len(got) != 1 || got[0].Calls != [2]bool{want, true} {
					t.Errorf("%v, read as %d: Run = %v, %d", s, reading, got, e)
				}
				// The same thermostat as the second one.
				other := k
				other.Stats = [2]api.KtStat{k.Stats[1], k.Stats[0]}
				got, e = kettle.Run(other, state(reading-err, 0, true, before), api.KtTruth{Which: -1, Minutes: likeThis(minute(0, err, 1), 1)})
				if e != api.OK || len(got) != 1 || got[0].Calls != [2]bool{true, want} {
					t.Errorf("%v, read as %d by the second one: Run = %v, %d", s, reading, got, e)
				}
				// A thermostat that is stuck calls as before, whatever it reads.
				for from := range 2 {
					got, e = kettle.Run(k, s, api.KtTruth{Which: 0, From: from, Minutes: likeThis(minute(err, 0, 1), 1)})
					if stuck := from == 0; e != api.OK || len(got) != 1 || got[0].Calls[0] != (stuck && before || !stuck && want) {
						t.Errorf("%v, read as %d, stuck from %d on: Run = %v, %d", s, reading, from, got, e)
					}
				}
			}
		}
	}
}

// P6.2: the heat of the jacket, and the warmth of the wax, stay in their ranges.
func TestWhatTheJacketDoes(t *testing.T) {
	k := api.KtKettle{Step: 5, Fall: 3, Most: 7, Loss: span(0, 10), Stats: [2]api.KtStat{stat(100, 200, 0, 0), stat(100, 200, 0, 0)}}
	for _, c := range []struct {
		s           api.KtState
		loss        int
		wax, jacket int
	}{
		{state(50, 0, true, true), 0, 55, 5}, {state(50, 2, true, true), 0, 57, 7}, {state(50, 3, true, true), 0, 57, 7}, {state(50, 7, true, true), 10, 47, 7},
		{state(150, 7, true, false), 0, 154, 4}, {state(150, 7, false, true), 4, 150, 4}, {state(150, 3, false, false), 0, 150, 0}, {state(150, 2, false, true), 1, 149, 0}, {state(150, 0, true, false), 10, 140, 0},
		{state(0, 0, true, true), 10, 0, 5}, {state(0, 0, true, true), 5, 0, 5}, {state(0, 0, true, true), 4, 1, 5}, {state(2, 0, true, true), 8, 0, 5}, {state(2, 0, true, true), 6, 1, 5},
		{state(400, 7, true, true), 0, 400, 4}, {state(400, 7, false, false), 4, 400, 4}, {state(400, 7, false, false), 5, 399, 4}, {state(397, 7, false, false), 0, 400, 4}, {state(395, 7, false, false), 0, 399, 4}, {state(398, 7, false, false), 2, 400, 4},
	} {
		got, e := kettle.Run(k, c.s, api.KtTruth{Which: -1, Minutes: likeThis(minute(0, 0, c.loss), 1)})
		if e != api.OK || len(got) != 1 || got[0].Wax != c.wax || got[0].Jacket != c.jacket {
			t.Errorf("%v, with a loss of %d: Run = %v, %d, not %d, %d", c.s, c.loss, got, e, c.wax, c.jacket)
		}
	}
	// The wax is not warmed while just one of them calls, and a jacket without heat stays so.
	k.Most = 0
	got, e := kettle.Run(k, state(50, 0, true, true), api.KtTruth{Which: -1, Minutes: likeThis(minute(0, 0, 0), 3)})
	if want := slices.Repeat([]api.KtState{state(50, 0, true, true)}, 3); !slices.Equal(got, want) || e != api.OK {
		t.Errorf("Run = %v, %d", got, e)
	}
}

// P6.2: a thermostat works before the minute From, and is stuck in it and after it.
func TestFromWhichMinuteOnItSticks(t *testing.T) {
	// The wax becomes hotter by 1 in each minute, as long as both call.
	k := api.KtKettle{Step: 1, Fall: 1, Most: 1, Loss: span(0, 0), Stats: [2]api.KtStat{stat(49, 50, 0, 0), stat(249, 250, 0, 0)}}
	s := state(0, 1, true, true)
	for which := -1; which <= 1; which++ {
		for _, from := range []int{0, 1, 49, 50, 51, 52, 100, 199, 200} {
			truth := api.KtTruth{Which: which, From: from, Minutes: likeThis(minute(0, 0, 0), 200)}
			got, e := kettle.Run(k, s, truth)
			// In the minute 50 it reads 50.
			want := 50
			if which == 0 && from <= 50 {
				want = 200
			}
			if e != api.OK || len(got) != 200 || got[199].Wax != want {
				t.Errorf("%d is stuck from %d on: Run = %v, %d, not %d", which, from, got, e, want)
			}
		}
	}
}

// P6.3: the examples of the chapter.
func TestHottestAndSoonestExamples(t *testing.T) {
	for which, want := range map[int]int{-1: 67, 0: 72, 1: 67} {
		if got, e := kettle.Hottest(example(), start(), which); got != want || e != api.OK {
			t.Errorf("%d: Hottest = %d, %d, not %d", which, got, e, want)
		}
	}
	for _, c := range []struct {
		warm, want int
		e          api.Errno
	}{{72, 6, api.OK}, {73, 0, api.ErrDown}, {60, 0, api.OK}, {61, 1, api.OK}, {62, 2, api.OK}, {64, 2, api.OK}, {65, 3, api.OK}, {0, 0, api.OK}, {-1, 0, api.OK}, {math.MinInt, 0, api.OK}, {400, 0, api.ErrDown}, {401, 0, api.ErrDown}, {math.MaxInt, 0, api.ErrDown}} {
		if got, e := kettle.Soonest(example(), start(), 0, c.warm); got != c.want || e != c.e {
			t.Errorf("%d: Soonest = %d, %d, not %d, %d", c.warm, got, e, c.want, c.e)
		}
	}
}

// hot is how hot a kettle can become, if none sticks, 0 may, or 1 may.
type hot struct {
	k    api.KtKettle
	s    api.KtState
	want [3]int
}

// hots are kettles of which this can be told by hand.
func hots() []hot {
	// Both do not call any more from 100 on, with a jacket that is quite cold a minute later.
	even := api.KtKettle{Step: 10, Fall: 12, Most: 10, Loss: span(0, 0), Stats: [2]api.KtStat{stat(99, 100, 0, 0), stat(99, 100, 0, 0)}}
	// The second one stops later.
	late := even
	late.Stats[1] = stat(149, 150, 0, 0)
	// It reads wrong by up to 20.
	wrong := late
	wrong.Stats[1].Err = span(-20, 5)
	slow := even
	slow.Fall = 1
	never := even
	never.Most = 0
	top := even
	top.Step, top.Most, top.Fall, top.Loss = 12, 12, 1, span(0, 10)
	bottom := even
	bottom.Loss = span(10, 10)
	return []hot{
		{even, state(0, 0, true, true), [3]int{100, 100, 100}},
		{even, state(5, 0, true, true), [3]int{105, 105, 105}},
		{late, state(0, 0, true, true), [3]int{100, 150, 100}},
		{late, state(99, 0, true, true), [3]int{109, 159, 109}},
		{late, state(99, 0, false, true), [3]int{109, 159, 109}},
		// What did not call when it stuck never does, but it need not stick now.
		{late, state(120, 0, false, true), [3]int{120, 120, 120}},
		{late, state(120, 0, true, true), [3]int{120, 150, 120}},
		{late, state(120, 10, true, true), [3]int{120, 150, 120}},
		{wrong, state(0, 0, true, true), [3]int{100, 170, 100}},
		{slow, state(0, 0, true, true), [3]int{145, 145, 145}},
		{slow, state(200, 10, false, false), [3]int{245, 245, 245}},
		{slow, state(200, 0, true, true), [3]int{200, 200, 200}},
		{never, state(0, 0, true, true), [3]int{0, 0, 0}},
		{never, state(400, 0, true, true), [3]int{400, 400, 400}},
		{top, state(395, 12, false, false), [3]int{400, 400, 400}},
		{top, state(389, 12, false, false), [3]int{400, 400, 400}},
		{top, state(330, 12, false, false), [3]int{396, 396, 396}},
		{bottom, state(0, 0, true, true), [3]int{0, 0, 0}},
		{bottom, state(90, 10, true, true), [3]int{90, 90, 90}},
	}
}

// P6.3
func TestHottest(t *testing.T) {
	for i, c := range hots() {
		for which := -1; which <= 1; which++ {
			want := c.want[which+1]
			if got, e := kettle.Hottest(c.k, c.s, which); got != want || e != api.OK {
				t.Errorf("%d, %d: Hottest = %d, %d, not %d", i, which, got, e, want)
			}
			if _, e := kettle.Soonest(c.k, c.s, which, want); e != api.OK {
				t.Errorf("%d, %d: Soonest of %d: %d", i, which, want, e)
			}
			if got, e := kettle.Soonest(c.k, c.s, which, want+1); got != 0 || e != api.ErrDown {
				t.Errorf("%d, %d: Soonest of %d = %d, %d", i, which, want+1, got, e)
			}
			if got, e := kettle.Soonest(c.k, c.s, which, c.s.Wax); got != 0 || e != api.OK {
				t.Errorf("%d, %d: Soonest of %d = %d, %d", i, which, c.s.Wax, got, e)
			}
		}
	}
}

// cooling is a kettle whose first thermostat calls only when the wax has cooled, by a degree a minute, to 1.
func cooling() api.KtKettle {
	return api.KtKettle{Step: 12, Fall: 1, Most: 12, Loss: span(1, 1), Stats: [2]api.KtStat{stat(1, 2, 0, 0), stat(240, 250, 0, 0)}}
}

// P6.3: truths of any length count, also such in which it sticks after the minute 200.
func TestTruthsOfAnyLength(t *testing.T) {
	s := state(250, 0, false, false)
	for which, want := range map[int]int{-1: 250, 0: 309, 1: 250} {
		if got, e := kettle.Hottest(cooling(), s, which); got != want || e != api.OK {
			t.Errorf("%d: Hottest = %d, %d, not %d", which, got, e, want)
		}
	}
	// In the minute 249 both call; the jacket has a heat of 12 from then on, until the second one reads 254.
	for _, c := range []struct{ warm, want int }{{250, 0}, {251, 272}, {254, 272}, {255, 273}, {264, 273}, {308, 281}, {309, 282}} {
		if got, e := kettle.Soonest(cooling(), s, 0, c.warm); got != c.want || e != api.OK {
			t.Errorf("%d: Soonest = %d, %d, not %d", c.warm, got, e, c.want)
		}
	}
	// By a degree a minute.
	slow := api.KtKettle{Step: 1, Fall: 1, Most: 1, Loss: span(0, 0), Stats: [2]api.KtStat{stat(249, 250, 0, 0), stat(249, 250, -20, 20)}}
	if got, e := kettle.Soonest(slow, state(0, 0, true, true), -1, 250); got != 250 || e != api.OK {
		t.Errorf("Soonest = %d, %d", got, e)
	}
}

// P6.3: between the ends of Loss all numbers count, too.
func TestAllLossesCount(t *testing.T) {
	// From 90 on there is one more minute of heating, which is hottest from 99 on: with a loss of 1 in the first one.
	k := api.KtKettle{Step: 12, Fall: 12, Most: 10, Loss: span(0, 2), Stats: [2]api.KtStat{stat(99, 100, 0, 0), stat(99, 100, 0, 0)}}
	if got, e := kettle.Hottest(k, state(90, 0, true, true), -1); got != 109 || e != api.OK {
		t.Errorf("Hottest = %d, %d", got, e)
	}
	if got, e := kettle.Soonest(k, state(90, 0, true, true), -1, 109); got != 2 || e != api.OK {
		t.Errorf("Soonest = %d, %d", got, e)
	}
}

// P6.3, P6.11: a thermostat that may stick does not do so before the state; what has stuck in a truth remains so in it.
func TestItMayStickFromTheStateOn(t *testing.T) {
	k := api.KtKettle{Step: 5, Fall: 2, Most: 11, Loss: span(1, 1), Stats: [2]api.KtStat{stat(56, 61, 3, 3), stat(47, 65, 1, 1)}}
	s := state(30, 0, true, false)
	if got, e := kettle.Hottest(k, s, 1); got != 83 || e != api.OK {
		t.Errorf("Hottest = %d, %d", got, e)
	}
	// In a truth in which 1 sticks from the minute 32 on this is the state after 50 minutes. From it on, with 1 stuck, the wax becomes hotter than 83 in no truth; it does in one in which 1 still works there.
	then := state(42, 0, true, false)
	if l, e := kettle.Run(k, s, api.KtTruth{Which: 1, From: 32, Minutes: likeThis(minute(3, 1, 1), 50)}); e != api.OK || l[49] != then {
		t.Errorf("Run = %v, %d", l, e)
	}
	if got, e := kettle.Hottest(k, then, 1); got != 85 || e != api.OK {
		t.Errorf("Hottest = %d, %d", got, e)
	}
	if list := soonest(reach(k, spot{then, true}, 1)); len(list)-1 > 83 {
		t.Errorf("%d degrees, with 1 stuck", len(list)-1)
	}
}

// P6.4: the examples of the chapter, and what the margin is made of.
func TestMargin(t *testing.T) {
	if got, e := kettle.Margin(example(), start(), 80); got != 8 || e != api.OK {
		t.Errorf("Margin = %d, %d", got, e)
	}
	for i, c := range hots() {
		for _, flash := range []int{0, 80, 400} {
			want := flash - max(c.want[1], c.want[2])
			if got, e := kettle.Margin(c.k, c.s, flash); got != want || e != api.OK {
				t.Errorf("%d: Margin below %d = %d, %d, not %d", i, flash, got, e, want)
			}
		}
	}
}

// P6.4: the examples of the chapter, and settings that are bounded by the kettle.
func TestSetting(t *testing.T) {
	// Thermostats that cannot be shifted as far as 5.
	low := with(func(k *api.KtKettle) { k.Stats[0] = stat(2, 62, 0, 0) })
	high := with(func(k *api.KtKettle) { k.Stats[1] = stat(64, 247, -1, 1) })
	narrow := with(func(k *api.KtKettle) { k.Stats = [2]api.KtStat{stat(0, 62, 0, 0), stat(64, 250, 0, 0)} })
	hot := state(75, 0, true, true)
	for i, c := range []struct {
		k             api.KtKettle
		s             api.KtState
		flash, margin int
		want          int
		e             api.Errno
	}{
		{example(), start(), 80, 8, 0, api.OK},
		{example(), start(), 80, 10, -2, api.OK},
		{example(), start(), 80, 9, -1, api.OK},
		{example(), start(), 80, 13, -5, api.OK},
		{example(), start(), 80, 14, 0, api.ErrDown},
		{example(), start(), 80, 3, 5, api.OK},
		{example(), start(), 80, 0, 5, api.OK},
		{example(), start(), 71, 0, -1, api.OK},
		{example(), start(), 60, 0, 0, api.ErrDown},
		// As hot as it is at the beginning, whatever the setting is; from 4 on it becomes hotter later.
		{example(), hot, 80, 5, 3, api.OK},
		{example(), hot, 80, 6, 0, api.ErrDown},
		{low, state(0, 0, false, false), 400, 0, 5, api.OK},
		{high, state(0, 0, false, false), 400, 0, 3, api.OK},
		{narrow, state(0, 0, false, false), 400, 0, 0, api.OK},
		{narrow, state(0, 0, true, true), 80, 79, 0, api.ErrDown},
	} {
		if got, e := kettle.Setting(c.k, c.s, c.flash, c.margin); got != c.want || e != c.e {
			t.Errorf("%d: Setting = %d, %d, not %d, %d", i, got, e, c.want, c.e)
		}
	}
}

// note is what both thermostats read, and which of them call.
func note(first, second int, firstCalls, secondCalls bool) api.KtNote {
	return api.KtNote{Readings: [2]int{first, second}, Calls: [2]bool{firstCalls, secondCalls}}
}

// P6.5: the example of the chapter, and logs by hand.
func TestConvict(t *testing.T) {
	on, off := note(0, 0, true, true), note(100, 100, false, false)
	for i, c := range []struct {
		before        [2]bool
		log           []api.KtNote
		who           int
		first, second api.Span
		e             api.Errno
	}{
		{both(true), []api.KtNote{note(61, 61, true, true), note(63, 63, true, true)}, 0, span(0, 1), span(0, 2), api.OK},
		{both(true), nil, -1, span(0, 0), span(0, 0), api.OK},
		{both(false), nil, -1, span(0, 0), span(0, 0), api.OK},
		// Nothing changes, and nothing has to.
		{both(true), []api.KtNote{on, on, on}, -1, span(0, 3), span(0, 3), api.OK},
		{both(false), []api.KtNote{off, off}, -1, span(0, 2), span(0, 2), api.OK},
		// What changes in a minute cannot be stuck then.
		{both(true), []api.KtNote{on, off, off}, -1, span(2, 3), span(2, 3), api.OK},
		{both(false), []api.KtNote{on, off, on}, -1, span(3, 3), span(3, 3), api.OK},
		{[2]bool{true, false}, []api.KtNote{on, off}, -1, span(2, 2), span(2, 2), api.OK},
		// At the ends of what is in between, and in it.
		{both(true), []api.KtNote{note(60, 64, true, true), note(61, 65, true, true)}, -1, span(0, 2), span(0, 2), api.OK},
		{both(false), []api.KtNote{note(61, 65, false, false), note(62, 66, false, false)}, -1, span(0, 2), span(0, 2), api.OK},
		{both(true), []api.KtNote{note(61, 66, true, true)}, 1, span(0, 1), span(0, 0), api.OK},
		{both(true), []api.KtNote{note(62, 65, true, true)}, 0, span(0, 0), span(0, 1), api.OK},
		{both(false), []api.KtNote{note(60, 65, false, false)}, 0, span(0, 0), span(0, 1), api.OK},
		{both(false), []api.KtNote{note(61, 64, false, false)}, 1, span(0, 1), span(0, 0), api.OK},
		// The one that should have called otherwise in a minute was stuck then.
		{both(true), []api.KtNote{on, note(100, 100, false, true), note(100, 65, false, true)}, 1, span(2, 3), span(0, 1), api.OK},
		{both(false), []api.KtNote{on, note(0, 65, false, true)}, 0, span(0, 0), span(0, 0), api.ErrDown},
		{both(false), []api.KtNote{on, off, note(0, 100, false, false), off}, 0, span(2, 2), span(2, 4), api.OK},
		// Also if it does what it should after this one.
		{both(true), []api.KtNote{note(100, 0, true, true), on, note(61, 61, true, true)}, 0, span(0, 0), span(0, 3), api.OK},
		// Both should have called otherwise.
		{both(true), []api.KtNote{off, note(0, 0, false, false)}, 0, span(0, 0), span(0, 0), api.ErrTwice},
		{both(true), []api.KtNote{note(100, 0, true, true), note(0, 100, true, true)}, 0, span(0, 0), span(0, 0), api.ErrTwice},
		// A change where none should be.
		{both(true), []api.KtNote{note(61, 61, false, true)}, 0, span(0, 0), span(0, 0), api.ErrDown},
		{both(true), []api.KtNote{note(61, 65, true, false)}, 0, span(0, 0), span(0, 0), api.ErrDown},
		// It was stuck, and changes later.
		{both(true), []api.KtNote{note(100, 0, true, true), note(100, 0, false, true)}, 0, span(0, 0), span(0, 0), api.ErrDown},
		{both(true), []api.KtNote{note(0, 100, true, true), note(0, 100, true, true), note(0, 100, true, false)}, 0, span(0, 0), span(0, 0), api.ErrDown},
		// That one cannot be stuck comes before that both have to be, or that the other one has to.
		{both(true), []api.KtNote{note(100, 100, true, true), note(100, 100, false, true)}, 0, span(0, 0), span(0, 0), api.ErrDown},
		{both(true), []api.KtNote{note(100, 100, true, true), note(100, 100, true, false)}, 0, span(0, 0), span(0, 0), api.ErrDown},
		// Readings can be any numbers.
		{both(true), []api.KtNote{note(math.MinInt, math.MaxInt, true, true)}, 1, span(0, 1), span(0, 0), api.OK},
		{both(false), []api.KtNote{note(math.MinInt, math.MaxInt, false, false)}, 0, span(0, 0), span(0, 1), api.OK},
	} {
		who, since, e := kettle.Convict(example(), c.before, c.log)
		want := []api.Span{c.first, c.second}
		if c.e != api.OK {
			want = nil
		}
		if who != c.who || !slices.Equal(since, want) || e != c.e {
			t.Errorf("%d: Convict = %d, %v, %d", i, who, since, e)
		}
	}
}
