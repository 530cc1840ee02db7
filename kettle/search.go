package kettle

import (
	"iter"

	"stearin/api"
)

// moment is a state in a truth, and which thermostat is stuck in it.
type moment struct {
	api.KtState
	stuck int
}

// either yields two things, or one if they are the same.
func either[T comparable](a, b T) iter.Seq[T] {
	return func(yield func(T) bool) {
		if yield(a) && a != b {
			yield(b)
		}
	}
}

// callings yields which thermostats can call together, if one of them is stuck. The greater a reading is, the less a thermostat calls: so it does nothing else than after the least and the greatest one.
func (v view) callings(s api.KtState, stuck int) iter.Seq[[2]bool] {
	return func(yield func([2]bool) bool) {
		least := v.calls(s, stuck, [2]int{v.Stats[0].Err.Lo, v.Stats[1].Err.Lo})
		greatest := v.calls(s, stuck, [2]int{v.Stats[0].Err.Hi, v.Stats[1].Err.Hi})
		for first := range either(least[0], greatest[0]) {
			for second := range either(least[1], greatest[1]) {
				if !yield([2]bool{first, second}) {
					return
				}
			}
		}
	}
}

// follow yields the moments that can follow a minute later, if a thermostat may stick: as long as it has not, it can do so in each minute.
func (v view) follow(now moment, which int) iter.Seq[moment] {
	return func(yield func(moment) bool) {
		last := now
		for stuck := range either(now.stuck, which) {
			for calls := range v.callings(now.KtState, stuck) {
				for loss := v.Loss.Lo; loss <= v.Loss.Hi; loss++ {
					next := moment{v.later(now.KtState, calls, loss), stuck}
					// As cold or as hot as it can be, the wax is the same whatever it loses.
					if next == last {
						continue
					}
					if !yield(next) {
						return
					}
					last = next
				}
			}
		}
	}
}

// places is how many moments have the same warmth.
const places = (api.MaxKtJacket + 1) * 2 * 2 * 2

// place returns which of these a moment is.
func (m moment) place() int {
	place := m.Jacket
	for _, yes := range [...]bool{m.Calls[0], m.Calls[1], m.stuck != none} {
		place *= 2
		if yes {
			place++
		}
	}
	return place
}

// diary is after how many minutes each moment can be met first, counted from 1 on; with 0 it never is. The moments of each warmth are a row. In each minute until the last one something new is met: so there are no more minutes than moments.
type diary [api.MaxKtWarm + 1][places]uint16

// explore returns the diary of all truths from a state on, if a thermostat may stick.
func (v view) explore(s api.KtState, which int) *diary {
	var met diary
	var list []moment
	meet := func(m moment, minute uint16) {
		first := &met[m.Wax][m.place()]
		if *first == 0 {
			*first = minute
			list = append(list, m)
		}
	}
	meet(moment{s, none}, 1)
	// The moments come into the list in the order of their minutes.
	for i := 0; i < len(list); i++ {
		now := list[i]
		next := met[now.Wax][now.place()] + 1
		for m := range v.follow(now, which) {
			meet(m, next)
		}
	}
	return &met
}

// hottest returns the greatest warmth that is met.
func (d *diary) hottest() int {
	warm := api.MaxKtWarm
rows:
	for ; warm > 0; warm-- {
		for _, first := range d[warm] {
			if first > 0 {
				break rows
			}
		}
	}
	return warm
}

// soonest returns after how many minutes the wax can be at least so warm; it can be.
func (d *diary) soonest(warm int) int {
	var least uint16
	for _, row := range d[max(0, warm):] {
		for _, first := range row {
			if first > 0 && (least == 0 || first < least) {
				least = first
			}
		}
	}
	return int(least) - 1
}

// margin returns by how much the wax stays below a flash point.
func (v view) margin(s api.KtState, flash int) int {
	return flash - max(v.explore(s, 0).hottest(), v.explore(s, 1).hottest())
}
