package kettle_test

import (
	"iter"
	"math"
	"math/rand"
	"slices"

	"stearin/api"
	"stearin/kettle"
)

// span is the range from one number to another one.
func span(lo, hi int) api.Span { return api.Span{Lo: lo, Hi: hi} }

// stat is a thermostat.
func stat(on, off, least, most int) api.KtStat {
	return api.KtStat{On: on, Off: off, Err: span(least, most)}
}

// example is the kettle K of the chapter.
func example() api.KtKettle {
	return api.KtKettle{Step: 2, Fall: 1, Most: 4, Loss: span(1, 2), Stats: [2]api.KtStat{stat(60, 62, 0, 0), stat(64, 66, -1, 1)}}
}

// with is the example with a change.
func with(change func(k *api.KtKettle)) api.KtKettle {
	k := example()
	change(&k)
	return k
}

// both is that both thermostats call, or do not.
func both(calls bool) [2]bool { return [2]bool{calls, calls} }

// start is the state S of the chapter.
func start() api.KtState { return api.KtState{Wax: 60, Calls: both(true)} }

// full is a kettle with as much as there can be.
func full() api.KtKettle {
	return api.KtKettle{Step: 12, Fall: 12, Most: 12, Loss: span(0, 10), Stats: [2]api.KtStat{stat(0, 250, -20, 20), stat(249, 250, -20, 20)}}
}

// outside are numbers of which none is from least to most.
func outside(least, most int) []int {
	return []int{least - 1, most + 1, least - 1000000, most + 1000000, math.MinInt, math.MaxInt, math.MinInt32, math.MaxInt32}
}

// minute is what happens in a minute.
func minute(first, second, loss int) api.KtMinute {
	return api.KtMinute{Errs: [2]int{first, second}, Loss: loss}
}

// likeThis is minutes in which always the same happens.
func likeThis(m api.KtMinute, times int) []api.KtMinute {
	return slices.Repeat([]api.KtMinute{m}, times)
}

// shouldCall is whether a thermostat calls after a reading, if it is not stuck.
func shouldCall(x api.KtStat, reading int, before bool) bool {
	if before {
		return !(reading >= x.Off)
	}
	return reading <= x.On
}

// next is the state after a minute in which a thermostat is stuck (-1: none), by the definition.
func next(k api.KtKettle, s api.KtState, stuck int, m api.KtMinute) api.KtState {
	for i, x := range k.Stats {
		if i != stuck {
			s.Calls[i] = shouldCall(x, s.Wax+m.Errs[i], s.Calls[i])
		}
	}
	if s.Calls == both(true) {
		s.Jacket += k.Step
		if s.Jacket > k.Most {
			s.Jacket = k.Most
		}
	} else {
		s.Jacket -= k.Fall
		if s.Jacket < 0 {
			s.Jacket = 0
		}
	}
	s.Wax += s.Jacket - m.Loss
	if s.Wax < 0 {
		s.Wax = 0
	}
	if s.Wax > 400 {
		s.Wax = 400
	}
	return s
}

// course is the states of a truth, of any length, with that at the beginning.
func course(k api.KtKettle, s api.KtState, t api.KtTruth) []api.KtState {
	states := []api.KtState{s}
	for i, m := range t.Minutes {
		stuck := -1
		if i >= t.From {
			stuck = t.Which
		}
		s = next(k, s, stuck, m)
		states = append(states, s)
	}
	return states
}

// run is the states of a truth of any length, with that at the beginning, by Run.
func run(k api.KtKettle, s api.KtState, t api.KtTruth) ([]api.KtState, api.Errno) {
	states := []api.KtState{s}
	for piece := range slices.Chunk(t.Minutes, 200) {
		// Not in this piece is as well in the minute after its last one.
		list, e := kettle.Run(k, states[len(states)-1], api.KtTruth{Which: t.Which, From: min(t.From, 200), Minutes: piece})
		if e != api.OK {
			return nil, e
		}
		t.From = max(0, t.From-len(piece))
		states = append(states, list...)
	}
	return states, api.OK
}

// spot is a state, and whether a thermostat is stuck in it.
type spot struct {
	s     api.KtState
	stuck bool
}

// way is how a spot is met first: after how many minutes, and after which spot, in what minute.
type way struct {
	minutes int
	before  spot
	m       api.KtMinute
}

// happenings yields a minute for each way in which thermostats can call, and each loss, by all numbers of Err and Loss.
func happenings(k api.KtKettle, s api.KtState) iter.Seq[api.KtMinute] {
	return func(yield func(api.KtMinute) bool) {
		var errs [2][]int
		for i, x := range k.Stats {
			met := map[bool]bool{}
			for n := x.Err.Lo; n <= x.Err.Hi; n++ {
				if calls := shouldCall(x, s.Wax+n, s.Calls[i]); !met[calls] {
					met[calls] = true
					errs[i] = append(errs[i], n)
				}
			}
		}
		for _, a := range errs[0] {
			for _, b := range errs[1] {
				for loss := k.Loss.Lo; loss <= k.Loss.Hi; loss++ {
					if !yield(minute(a, b, loss)) {
						return
					}
				}
			}
		}
	}
}

// reach is all spots that there can be from one on, and how each is met first.
func reach(k api.KtKettle, from spot, which int) map[spot]way {
	ways := map[spot]way{}
	var list []spot
	meet := func(at spot, w way) {
		// What has not stuck may do so from now on.
		for _, x := range []spot{at, {at.s, at.stuck || which >= 0}} {
			if _, met := ways[x]; !met {
				ways[x] = w
				list = append(list, x)
			}
		}
	}
	meet(from, way{})
	for len(list) > 0 {
		now := list[0]
		list = list[1:]
		stuck := -1
		if now.stuck {
			stuck = which
		}
		for m := range happenings(k, now.s) {
			meet(spot{next(k, now.s, stuck, m), now.stuck}, way{ways[now].minutes + 1, now, m})
		}
	}
	return ways
}

// soonest is after how many minutes the wax can be at least as hot as each warmth; one that it cannot be is not in it.
func soonest(ways map[spot]way) []int {
	list := slices.Repeat([]int{math.MaxInt}, 401)
	hottest := 0
	for at, w := range ways {
		list[at.s.Wax] = min(list[at.s.Wax], w.minutes)
		hottest = max(hottest, at.s.Wax)
	}
	for warm := hottest - 1; warm >= 0; warm-- {
		list[warm] = min(list[warm], list[warm+1])
	}
	return list[:hottest+1]
}

// truthTo is a truth of any length whose last state is as hot as this, as soon as it can be.
func truthTo(ways map[spot]way, which, warm int) api.KtTruth {
	best := math.MaxInt
	var at spot
	for x, w := range ways {
		if x.s.Wax >= warm && (w.minutes < best || w.minutes == best && !x.stuck) {
			at, best = x, w.minutes
		}
	}
	t := api.KtTruth{Which: which}
	for left := best; left >= 0; left-- {
		// It sticks in the minute after the last spot in which it had not.
		if !at.stuck && t.From == 0 {
			t.From = left + 1
		}
		t.Minutes = append(t.Minutes, ways[at].m)
		at = ways[at].before
	}
	// Before the first minute there is none.
	t.Minutes = t.Minutes[:best]
	slices.Reverse(t.Minutes)
	return t
}

// within is a random number of a range, often one of its ends.
func within(r *rand.Rand, s api.Span) int {
	switch r.Intn(4) {
	case 0:
		return s.Lo
	case 1:
		return s.Hi
	}
	return s.Lo + r.Intn(s.Hi-s.Lo+1)
}

// part is a random range within another one, with at most so many numbers.
func part(r *rand.Rand, s api.Span, most int) api.Span {
	lo := s.Lo + r.Intn(s.Hi-s.Lo+1)
	return span(lo, min(s.Hi, lo+r.Intn(most)))
}

// anyStat is a random thermostat with Off at most so high.
func anyStat(r *rand.Rand, least, most int) api.KtStat {
	on := least + r.Intn(most-least)
	off := on + 1 + r.Intn(min(12, most-on))
	if r.Intn(8) == 0 {
		off = on + 1 + r.Intn(most-on)
	}
	return api.KtStat{On: on, Off: off, Err: part(r, span(-4, 4), 4)}
}

// anyKettle is a random kettle whose thermostats have their Off from least to most.
func anyKettle(r *rand.Rand, least, most int) api.KtKettle {
	k := api.KtKettle{Step: 1 + r.Intn(4), Fall: 1 + r.Intn(4), Most: 2 + r.Intn(6), Loss: part(r, span(0, 4), 3)}
	k.Stats[0] = anyStat(r, least, most)
	// So that both matter, one often takes over where the other one ends.
	k.Stats[1] = anyStat(r, max(least, k.Stats[0].On-5), min(most, k.Stats[0].Off+5))
	if r.Intn(2) == 0 {
		k.Stats[0], k.Stats[1] = k.Stats[1], k.Stats[0]
	}
	if r.Intn(6) == 0 {
		k.Step, k.Fall, k.Most = 1+r.Intn(12), 1+r.Intn(12), r.Intn(13)
	}
	if r.Intn(6) == 0 {
		k.Loss = part(r, span(0, 10), 11)
	}
	if r.Intn(6) == 0 {
		k.Stats[r.Intn(2)].Err = part(r, span(-20, 20), 41)
	}
	return k
}

// anyState is a random state of a kettle, most often not far from its thermostats.
func anyState(r *rand.Rand, k api.KtKettle) api.KtState {
	near := k.Stats[r.Intn(2)]
	s := api.KtState{Wax: min(400, max(0, near.On-10+r.Intn(20))), Calls: [2]bool{r.Intn(3) > 0, r.Intn(3) > 0}}
	if r.Intn(2) == 0 {
		s.Jacket = r.Intn(k.Most + 1)
	}
	return s
}

// anyTruth is a random truth with so many minutes, in which a thermostat may stick.
func anyTruth(r *rand.Rand, k api.KtKettle, which, minutes int) api.KtTruth {
	t := api.KtTruth{Which: which, From: r.Intn(1 + min(200, minutes))}
	// For a while each number often stays what it is.
	stay := r.Intn(10)
	for range minutes {
		m := minute(within(r, k.Stats[0].Err), within(r, k.Stats[1].Err), within(r, k.Loss))
		if len(t.Minutes) > 0 && r.Intn(10) < stay {
			m = t.Minutes[len(t.Minutes)-1]
		}
		t.Minutes = append(t.Minutes, m)
	}
	return t
}

// logOf is the log of a truth with these states.
func logOf(states []api.KtState, t api.KtTruth) []api.KtNote {
	var log []api.KtNote
	for i, m := range t.Minutes {
		now := states[i]
		log = append(log, api.KtNote{Readings: [2]int{now.Wax + m.Errs[0], now.Wax + m.Errs[1]}, Calls: states[i+1].Calls})
	}
	return log
}

// canStick is whether a thermostat can be stuck in a log from a minute on, by the definition.
func canStick(k api.KtKettle, i int, before bool, log []api.KtNote, from int) bool {
	for at, note := range log {
		want := before
		if at < from {
			want = shouldCall(k.Stats[i], note.Readings[i], before)
		}
		if note.Calls[i] != want {
			return false
		}
		before = want
	}
	return true
}

// minutesOf is all minutes from which on a thermostat can be stuck.
func minutesOf(k api.KtKettle, i int, before bool, log []api.KtNote) []int {
	var list []int
	for from := range len(log) + 1 {
		if canStick(k, i, before, log, from) {
			list = append(list, from)
		}
	}
	return list
}

// eachKettle calls a test with random kettles with warmth below 60 degrees or so, a state of each, and a number of a thermostat (-1: none).
func eachKettle(seed int64, times int, test func(r *rand.Rand, k api.KtKettle, s api.KtState, which int)) {
	r := rand.New(rand.NewSource(seed))
	for range times {
		k := anyKettle(r, 0, 40)
		test(r, k, anyState(r, k), r.Intn(3)-1)
	}
}
