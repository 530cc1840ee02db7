package kettle_test

import (
	"math"
	"math/rand"
	"slices"
	"testing"

	"stearin/api"
	"stearin/kettle"
)

// firstMinutes is after how many minutes the wax can be at least as hot as each warmth, at most as many as this, from all truths tried one by one.
func firstMinutes(k api.KtKettle, s api.KtState, which, minutes int) []int {
	list := slices.Repeat([]int{math.MaxInt}, 402)
	for from := range minutes + 1 {
		var try func(s api.KtState, done int)
		try = func(s api.KtState, done int) {
			for warm := s.Wax; warm >= 0 && list[warm] > done; warm-- {
				list[warm] = done
			}
			if done == minutes {
				return
			}
			stuck := -1
			if done >= from {
				stuck = which
			}
			for a := k.Stats[0].Err.Lo; a <= k.Stats[0].Err.Hi; a++ {
				for b := k.Stats[1].Err.Lo; b <= k.Stats[1].Err.Hi; b++ {
					for loss := k.Loss.Lo; loss <= k.Loss.Hi; loss++ {
						try(next(k, s, stuck, minute(a, b, loss)), done+1)
					}
				}
			}
		}
		try(s, 0)
	}
	return list
}

// narrow is a kettle with fewer numbers in its spans, so that all truths of some minutes can be tried.
func narrow(k api.KtKettle) api.KtKettle {
	k.Loss.Hi = min(k.Loss.Hi, k.Loss.Lo+2)
	for i := range k.Stats {
		k.Stats[i].Err.Hi = min(k.Stats[i].Err.Hi, k.Stats[i].Err.Lo+1)
	}
	return k
}

// P6.3, P6.6: all truths of a few minutes.
func TestAllTruthsOfAFewMinutes(t *testing.T) {
	const minutes = 4
	heated, sticky := 0, 0
	eachKettle(66, 800, func(r *rand.Rand, k api.KtKettle, s api.KtState, which int) {
		k = narrow(k)
		known := firstMinutes(k, s, which, minutes)
		hottest := slices.Index(known, math.MaxInt) - 1
		for warm := max(0, s.Wax-1); warm <= hottest+1; warm++ {
			got, e := kettle.Soonest(k, s, which, warm)
			if want := known[warm]; want <= minutes && (got != want || e != api.OK) || want > minutes && e == api.OK && got <= minutes || e != api.OK && e != api.ErrDown {
				t.Fatalf("%v, %v, %d: Soonest of %d = %d, %d, not %d", k, s, which, warm, got, e, want)
			}
		}
		if got, e := kettle.Hottest(k, s, which); got < hottest || e != api.OK {
			t.Fatalf("%v, %v, %d: Hottest = %d, %d, not %d or more", k, s, which, got, e, hottest)
		}
		if hottest > s.Wax {
			heated++
			if which >= 0 && !slices.Equal(known, firstMinutes(k, s, -1, minutes)) {
				sticky++
			}
		}
	})
	if heated < 250 || sticky < 30 {
		t.Errorf("just %d that become hotter, %d of them by a thermostat that sticks", heated, sticky)
	}
}

// checkAll compares Hottest and Soonest with all that can be met, and returns this.
func checkAll(t *testing.T, r *rand.Rand, k api.KtKettle, s api.KtState, which int) map[spot]way {
	t.Helper()
	ways := reach(k, spot{s: s}, which)
	known := soonest(ways)
	if got, e := kettle.Hottest(k, s, which); got != len(known)-1 || e != api.OK {
		t.Fatalf("%v, %v, %d: Hottest = %d, %d, not %d", k, s, which, got, e, len(known)-1)
	}
	warms := []int{0, s.Wax, s.Wax + 1, len(known) - 2, len(known) - 1, len(known), r.Intn(len(known))}
	if r.Intn(20) == 0 {
		for warm := range 402 {
			warms = append(warms, warm)
		}
	}
	for _, warm := range warms {
		got, e := kettle.Soonest(k, s, which, warm)
		if warm >= len(known) {
			if got != 0 || e != api.ErrDown {
				t.Fatalf("%v, %v, %d: Soonest of %d = %d, %d", k, s, which, warm, got, e)
			}
			continue
		}
		if got != known[max(0, warm)] || e != api.OK {
			t.Fatalf("%v, %v, %d: Soonest of %d = %d, %d, not %d", k, s, which, warm, got, e, known[max(0, warm)])
		}
	}
	return ways
}

// P6.3, P6.6: all that can be met; there is a truth in which the wax is as hot as Hottest says, as soon as Soonest says, and no sooner.
func TestHottestAndSoonestAreReached(t *testing.T) {
	heated, sticky, long := 0, 0, 0
	eachKettle(660, 500, func(r *rand.Rand, k api.KtKettle, s api.KtState, which int) {
		ways := checkAll(t, r, k, s, which)
		hottest, _ := kettle.Hottest(k, s, which)
		if plain, _ := kettle.Hottest(k, s, -1); plain < hottest {
			sticky++
		}
		for _, warm := range []int{hottest, s.Wax, s.Wax + r.Intn(hottest-s.Wax+1)} {
			minutes, _ := kettle.Soonest(k, s, which, warm)
			truth := truthTo(ways, which, warm)
			states, e := run(k, s, truth)
			if e != api.OK || len(states) != minutes+1 || states[minutes].Wax < warm {
				t.Fatalf("%v, %v, %d: Soonest of %d = %d; in the truth %v: %v, %d", k, s, which, warm, minutes, truth, states, e)
			}
			if slices.ContainsFunc(states[:minutes], func(s api.KtState) bool { return s.Wax >= warm }) {
				t.Fatalf("%v, %v, %d: Soonest of %d = %d; sooner in the truth %v: %v", k, s, which, warm, minutes, truth, states)
			}
			if minutes > 12 {
				long++
			}
		}
		if hottest > s.Wax {
			heated++
		}
	})
	if heated < 200 || sticky < 60 || long < 40 {
		t.Errorf("just %d that become hotter, %d by a thermostat that sticks, %d after many minutes", heated, sticky, long)
	}
}

// P6.3, P6.6: kettles as great as they can be, with all that can be met.
func TestGreatKettles(t *testing.T) {
	r := rand.New(rand.NewSource(661))
	top := 0
	for range 12 {
		k := api.KtKettle{Step: 1 + r.Intn(12), Fall: 1 + r.Intn(12), Most: 8 + r.Intn(5), Loss: part(r, span(0, 10), 11)}
		for i := range k.Stats {
			on := 150 + r.Intn(100)
			k.Stats[i] = api.KtStat{On: on, Off: on + 1 + r.Intn(250-on), Err: part(r, span(-20, 20), 41)}
		}
		s := anyState(r, k)
		if r.Intn(3) == 0 {
			s.Wax, s.Jacket = 380+r.Intn(20), k.Most
		}
		for which := -1; which <= 1; which++ {
			checkAll(t, r, k, s, which)
			if hottest, _ := kettle.Hottest(k, s, which); hottest >= 300 {
				top++
			}
		}
	}
	if top < 5 {
		t.Errorf("just %d that become very hot", top)
	}
}

// P6.2, P6.6, P6.7: Run is as the definition says; in a random truth the wax is never hotter than Hottest says, not as hot as it can be before Soonest, and stays below the flash point by the margin.
func TestNoTruthIsMissed(t *testing.T) {
	reached, soon := 0, 0
	eachKettle(62, 1000, func(r *rand.Rand, k api.KtKettle, s api.KtState, which int) {
		if r.Intn(5) == 0 {
			k = anyKettle(r, 0, 250)
			s = anyState(r, k)
		}
		hottest, _ := kettle.Hottest(k, s, which)
		flash := r.Intn(401)
		margin, e := kettle.Margin(k, s, flash)
		for range 3 {
			truth := anyTruth(r, k, which, r.Intn(201))
			states := course(k, s, truth)
			got, f := kettle.Run(k, s, truth)
			if !slices.Equal(got, states[1:]) || e != api.OK || f != api.OK {
				t.Fatalf("%v, %v, %v: Run = %v, %d, not %v", k, s, truth, got, f, states[1:])
			}
			most := 0
			for done, now := range states {
				if now.Wax > hottest || flash-now.Wax < margin {
					t.Fatalf("%v, %v, %v: %d after %d minutes; Hottest = %d, Margin below %d = %d", k, s, truth, now.Wax, done, hottest, flash, margin)
				}
				most = max(most, now.Wax)
			}
			warm := within(r, span(s.Wax, most))
			at := slices.IndexFunc(states, func(s api.KtState) bool { return s.Wax >= warm })
			minutes, e := kettle.Soonest(k, s, which, warm)
			if minutes > at || e != api.OK {
				t.Fatalf("%v, %v, %v: Soonest of %d = %d, %d, not %d or less", k, s, truth, warm, minutes, e, at)
			}
			if most == hottest && hottest > s.Wax {
				reached++
			}
			if minutes == at && at > 0 {
				soon++
			}
		}
	})
	if reached < 200 || soon < 200 {
		t.Errorf("just %d times as hot as it can be, %d times as soon", reached, soon)
	}
}

// hotter is how hot the wax can become, whichever thermostat sticks, from all that can be met.
func hotter(k api.KtKettle, s api.KtState) int {
	return max(len(soonest(reach(k, spot{s: s}, 0))), len(soonest(reach(k, spot{s: s}, 1)))) - 1
}

// shifted is a kettle whose thermostats are shifted.
func shifted(k api.KtKettle, by int) api.KtKettle {
	for i, x := range k.Stats {
		k.Stats[i] = api.KtStat{On: x.On + by, Off: x.Off + by, Err: x.Err}
	}
	return k
}

// bestSetting is the greatest shift that keeps a margin, if there is one, and whether none that keeps it is less, and whether the kettle bounds it.
func bestSetting(k api.KtKettle, s api.KtState, flash, margin int) (by int, exists, bounded bool) {
	by = math.MinInt
	for n := -5; n <= 5; n++ {
		other := shifted(k, n)
		if min(other.Stats[0].On, other.Stats[1].On) < 0 || max(other.Stats[0].Off, other.Stats[1].Off) > 250 {
			bounded = true
		} else if flash-hotter(other, s) >= margin {
			by, exists = n, true
		}
	}
	return by, exists, bounded
}

// P6.4, P6.7: the margin is that of all that can be met, and Setting is the greatest one that keeps it.
func TestSettingIsTheGreatest(t *testing.T) {
	found, none, bounded := map[int]int{}, 0, 0
	r := rand.New(rand.NewSource(67))
	for range 250 {
		k := anyKettle(r, 0, 30)
		if r.Intn(6) == 0 {
			k = anyKettle(r, 225, 250)
		}
		s := anyState(r, k)
		hottest := hotter(k, s)
		flash := min(400, hottest+r.Intn(20))
		if got, e := kettle.Margin(k, s, flash); got != flash-hottest || e != api.OK {
			t.Fatalf("%v, %v: Margin below %d = %d, %d, not %d", k, s, flash, got, e, flash-hottest)
		}
		margin := max(0, flash-hottest-4+r.Intn(10))
		want, exists, bound := bestSetting(k, s, flash, margin)
		got, e := kettle.Setting(k, s, flash, margin)
		if exists != (e == api.OK) || exists && got != want || !exists && (e != api.ErrDown || got != 0) {
			t.Fatalf("%v, %v: Setting below %d by %d = %d, %d, not %d, %t", k, s, flash, margin, got, e, want, exists)
		}
		if !exists {
			none++
			continue
		}
		found[got]++
		if bound {
			bounded++
		}
		for which := range 2 {
			truth := anyTruth(r, k, which, 200)
			for _, now := range course(shifted(k, got), s, truth) {
				if flash-now.Wax < margin {
					t.Fatalf("%v, %v, %v: %d degrees at the setting %d, which keeps %d below %d", k, s, truth, now.Wax, got, margin, flash)
				}
			}
		}
	}
	if len(found) != 11 || found[5] > 150 || none < 30 || bounded < 20 {
		t.Errorf("just the settings %v; %d without one, %d bounded by the kettle", found, none, bounded)
	}
}

// P6.5, P6.8: of the log of a truth Convict returns just the minutes of the definition; who does not stick is not convicted, and the one that sticks can be stuck since it did.
func TestLogsOfTruths(t *testing.T) {
	convicted, innocent := 0, 0
	eachKettle(68, 4000, func(r *rand.Rand, k api.KtKettle, s api.KtState, which int) {
		if r.Intn(5) == 0 {
			k = anyKettle(r, 0, 250)
			s = anyState(r, k)
		}
		minutes := r.Intn(40)
		if r.Intn(10) == 0 {
			minutes = within(r, span(150, 200))
		}
		truth := anyTruth(r, k, which, minutes)
		log := logOf(course(k, s, truth), truth)
		who, since, e := kettle.Convict(k, s.Calls, log)
		if e != api.OK || len(since) != 2 || who != -1 && who != which {
			t.Fatalf("%v, %v, %v: Convict = %d, %v, %d", k, s, truth, who, since, e)
		}
		for i, can := range since {
			list := minutesOf(k, i, s.Calls[i], log)
			if can != span(list[0], list[len(list)-1]) || len(list) != can.Hi-can.Lo+1 || (can.Hi < len(log)) != (who == i) {
				t.Fatalf("%v, %v, %v: Convict = %d, %v; %d can be stuck since %v", k, s, truth, who, since, i, list)
			}
			if i == which && (truth.From < can.Lo || truth.From > can.Hi) {
				t.Fatalf("%v, %v, %v: Convict = %d, %v", k, s, truth, who, since)
			}
		}
		if who >= 0 {
			convicted++
		} else if which >= 0 {
			innocent++
		}
	})
	if convicted < 500 || innocent < 500 {
		t.Errorf("just %d convicted, %d not, which have stuck", convicted, innocent)
	}
}

// anyLog is a random log, in which a thermostat often calls as it should, or as before.
func anyLog(r *rand.Rand, k api.KtKettle, calls [2]bool) []api.KtNote {
	var log []api.KtNote
	careless := 2 + r.Intn(20)
	var stuckFrom [2]int
	for i := range stuckFrom {
		stuckFrom[i] = r.Intn(20)
	}
	for at := range r.Intn(12) {
		var n api.KtNote
		for i, x := range k.Stats {
			n.Readings[i] = x.On - 2 + r.Intn(x.Off-x.On+5)
			calls[i] = at >= stuckFrom[i] && calls[i] || at < stuckFrom[i] && shouldCall(x, n.Readings[i], calls[i])
			if r.Intn(careless) == 0 {
				calls[i] = !calls[i]
			}
		}
		n.Calls = calls
		log = append(log, n)
	}
	return log
}

// P6.5: any logs, also such as are not those of a truth, by the definition.
func TestAnyLogs(t *testing.T) {
	errs := map[api.Errno]int{}
	whos := map[int]int{}
	eachKettle(65, 12000, func(r *rand.Rand, k api.KtKettle, s api.KtState, _ int) {
		log := anyLog(r, k, s.Calls)
		var want []api.Span
		convicted := []int{}
		e := api.OK
		for i := range 2 {
			list := minutesOf(k, i, s.Calls[i], log)
			if len(list) == 0 {
				e = api.ErrDown
				continue
			}
			want = append(want, span(list[0], list[len(list)-1]))
			if !slices.Contains(list, len(log)) {
				convicted = append(convicted, i)
			}
		}
		if e == api.OK && len(convicted) == 2 {
			e = api.ErrTwice
		}
		wantWho := -1
		if len(convicted) == 1 {
			wantWho = convicted[0]
		}
		if e != api.OK {
			want, wantWho = nil, 0
		} else {
			whos[wantWho]++
		}
		who, since, f := kettle.Convict(k, s.Calls, log)
		if who != wantWho || !slices.Equal(since, want) || f != e {
			t.Fatalf("%v, %v, %v: Convict = %d, %v, %d, not %d, %v, %d", k, s.Calls, log, who, since, f, wantWho, want, e)
		}
		errs[e]++
	})
	if errs[api.OK] < 1000 || errs[api.ErrDown] < 1000 || errs[api.ErrTwice] < 200 || whos[0] < 200 || whos[1] < 200 || whos[-1] < 200 {
		t.Errorf("just these errors: %v; these convicted: %v", errs, whos)
	}
}

// P6.9
func TestOneMoreIsNoLessHot(t *testing.T) {
	sticks, wider := 0, 0
	eachKettle(69, 900, func(r *rand.Rand, k api.KtKettle, s api.KtState, which int) {
		none, _ := kettle.Hottest(k, s, -1)
		one, e := kettle.Hottest(k, s, which)
		if one < none || e != api.OK {
			t.Fatalf("%v, %v: Hottest = %d; with %d: %d, %d", k, s, none, which, one, e)
		}
		if one > none {
			sticks++
		}
		more := k
		at := []*api.Span{&more.Loss, &more.Stats[0].Err, &more.Stats[1].Err}[r.Intn(3)]
		least, most := -20, 20
		if at == &more.Loss {
			least, most = 0, 10
		}
		*at = span(max(least, at.Lo-r.Intn(3)), min(most, at.Hi+r.Intn(3)))
		other, e := kettle.Hottest(more, s, which)
		if other < one || e != api.OK {
			t.Fatalf("%v, %v, %d: Hottest = %d; %v: %d, %d", k, s, which, one, more, other, e)
		}
		if other > one {
			wider++
		}
		for _, warm := range []int{s.Wax, one, s.Wax + r.Intn(one-s.Wax+1)} {
			a, _ := kettle.Soonest(k, s, which, warm)
			b, e := kettle.Soonest(more, s, which, warm)
			if b > a || e != api.OK {
				t.Fatalf("%v, %v, %d: Soonest of %d = %d; %v: %d, %d", k, s, which, warm, a, more, b, e)
			}
		}
	})
	if sticks < 90 || wider < 90 {
		t.Errorf("just %d times really hotter with one that sticks, %d times with a wider span", sticks, wider)
	}
}

// P6.10
func TestChangedPlaces(t *testing.T) {
	heated := 0
	eachKettle(610, 600, func(r *rand.Rand, k api.KtKettle, s api.KtState, which int) {
		k2, s2, which2 := k, s, which
		k2.Stats = [2]api.KtStat{k.Stats[1], k.Stats[0]}
		s2.Calls = [2]bool{s.Calls[1], s.Calls[0]}
		if which >= 0 {
			which2 = 1 - which
		}
		a, _ := kettle.Hottest(k, s, which)
		b, e := kettle.Hottest(k2, s2, which2)
		if a != b || e != api.OK {
			t.Fatalf("%v, %v, %d: Hottest = %d; changed: %d, %d", k, s, which, a, b, e)
		}
		warm := s.Wax + r.Intn(a-s.Wax+2)
		x, f := kettle.Soonest(k, s, which, warm)
		y, e := kettle.Soonest(k2, s2, which2, warm)
		if x != y || f != e {
			t.Fatalf("%v, %v, %d: Soonest of %d = %d, %d; changed: %d, %d", k, s, which, warm, x, f, y, e)
		}
		flash := r.Intn(401)
		m, f := kettle.Margin(k, s, flash)
		n, e := kettle.Margin(k2, s2, flash)
		if m != n || f != api.OK || e != api.OK {
			t.Fatalf("%v, %v: Margin below %d = %d, %d; changed: %d, %d", k, s, flash, m, f, n, e)
		}
		if a > s.Wax {
			heated++
		}
	})
	if heated < 240 {
		t.Errorf("just %d that become hotter", heated)
	}
}

// P6.11
func TestOnAndOn(t *testing.T) {
	less, stuck := 0, 0
	eachKettle(611, 800, func(r *rand.Rand, k api.KtKettle, s api.KtState, which int) {
		truth := anyTruth(r, k, which, 1+r.Intn(100))
		all, e := kettle.Run(k, s, truth)
		if e != api.OK {
			t.Fatalf("%v, %v, %v: Run: %d", k, s, truth, e)
		}
		done := r.Intn(len(all) + 1)
		first, e := kettle.Run(k, s, api.KtTruth{Which: which, From: truth.From, Minutes: truth.Minutes[:done]})
		then := s
		if done > 0 {
			then = first[done-1]
		}
		second, f := kettle.Run(k, then, api.KtTruth{Which: which, From: max(0, truth.From-done), Minutes: truth.Minutes[done:]})
		if !slices.Equal(slices.Concat(first, second), all) || e != api.OK || f != api.OK {
			t.Fatalf("%v, %v, %v: Run = %v; after %d minutes, and further ones: %v, %v", k, s, truth, all, done, first, second)
		}
		most, _ := kettle.Hottest(k, s, which)
		if which < 0 || done <= truth.From {
			got, e := kettle.Hottest(k, then, which)
			if got > most || e != api.OK {
				t.Fatalf("%v, %v, %v: Hottest = %d; after %d minutes: %d, %d", k, s, truth, most, done, got, e)
			}
			if got < most {
				less++
			}
			return
		}
		// It has stuck, and remains so.
		stuck++
		if got := len(soonest(reach(k, spot{then, true}, which))) - 1; got > most {
			t.Fatalf("%v, %v, %v: Hottest = %d; after %d minutes: %d", k, s, truth, most, done, got)
		}
	})
	if less < 100 || stuck < 100 {
		t.Errorf("just %d times really less hot, %d times after it stuck", less, stuck)
	}
}

// P6.12
func TestMoreIsNotSooner(t *testing.T) {
	later := 0
	eachKettle(612, 150, func(r *rand.Rand, k api.KtKettle, s api.KtState, which int) {
		hottest, _ := kettle.Hottest(k, s, which)
		before := 0
		for warm := -1; warm <= 402; warm++ {
			if warm < s.Wax-3 && warm > 3 || warm > hottest+3 && warm < 399 {
				continue
			}
			got, e := kettle.Soonest(k, s, which, warm)
			if warm > hottest {
				if got != 0 || e != api.ErrDown {
					t.Fatalf("%v, %v, %d: Soonest of %d = %d, %d; Hottest = %d", k, s, which, warm, got, e, hottest)
				}
				continue
			}
			if e != api.OK || got < before || warm <= s.Wax && got != 0 || warm > s.Wax && got == 0 {
				t.Fatalf("%v, %v, %d: Soonest of %d = %d, %d, after %d", k, s, which, warm, got, e, before)
			}
			if got > before {
				later++
			}
			before = got
		}
	})
	if later < 300 {
		t.Errorf("just %d times really later", later)
	}
}

// P6.13
func TestNotesUpToAMinute(t *testing.T) {
	fewer, changes := 0, 0
	eachKettle(613, 3000, func(r *rand.Rand, k api.KtKettle, s api.KtState, which int) {
		truth := anyTruth(r, k, which, r.Intn(40))
		log := logOf(course(k, s, truth), truth)
		if r.Intn(2) == 0 {
			log = anyLog(r, k, s.Calls)
		}
		_, all, e := kettle.Convict(k, s.Calls, log)
		if e != api.OK {
			return
		}
		up := r.Intn(len(log) + 1)
		_, some, e := kettle.Convict(k, s.Calls, log[:up])
		if e != api.OK {
			t.Fatalf("%v, %v, %v: Convict of the first %d notes: %d", k, s.Calls, log, up, e)
		}
		before := s.Calls
		for at, n := range log {
			for i := range 2 {
				if n.Calls[i] != before[i] {
					changes++
					if all[i].Lo <= at {
						t.Fatalf("%v, %v, %v: Convict = %v", k, s.Calls, log, all)
					}
				}
			}
			before = n.Calls
		}
		for i := range 2 {
			for at := all[i].Lo; at < min(up, all[i].Hi+1); at++ {
				if at < some[i].Lo || at > some[i].Hi {
					t.Fatalf("%v, %v, %v: Convict = %v, of the first %d notes %v", k, s.Calls, log, all, up, some)
				}
			}
			if some[i].Lo < all[i].Lo && some[i].Lo < up {
				fewer++
			}
		}
	})
	if fewer < 200 || changes < 1000 {
		t.Errorf("just %d times really fewer, %d changes", fewer, changes)
	}
}
