package kettle

import "stearin/api"

// view is a kettle that is looked at.
type view struct{ api.KtKettle }

// stat is a thermostat that is looked at.
type stat struct{ api.KtStat }

// doing is what a thermostat does: whether it calls after a reading, from whether it did before.
type doing func(s stat, reading int, before bool) bool

// works is what a thermostat does that is not stuck.
func (s stat) works(reading int, before bool) bool {
	switch {
	case reading <= s.On:
		return true
	case reading >= s.Off:
		return false
	}
	return before
}

// sticks is what a thermostat does that is stuck.
func (s stat) sticks(_ int, before bool) bool { return before }

// does returns what a thermostat does if one of them is stuck.
func does(i, stuck int) doing {
	if i == stuck {
		return stat.sticks
	}
	return stat.works
}

// calls returns which thermostats call, if both read wrong by these numbers, and one of them is stuck.
func (v view) calls(s api.KtState, stuck int, errs [2]int) [2]bool {
	calls := s.Calls
	for i, err := range errs {
		do := does(i, stuck)
		calls[i] = do(stat{v.Stats[i]}, s.Wax+err, s.Calls[i])
	}
	return calls
}

// later returns the state a minute later, in which these thermostats call, and so much warmth is lost.
func (v view) later(s api.KtState, calls [2]bool, loss int) api.KtState {
	jacket := max(0, s.Jacket-v.Fall)
	if calls[0] && calls[1] {
		jacket = min(v.Most, s.Jacket+v.Step)
	}
	wax := min(max(0, s.Wax+jacket-loss), api.MaxKtWarm)
	return api.KtState{Wax: wax, Jacket: jacket, Calls: calls}
}

// shifted returns the kettle whose thermostats are shifted by a number.
func (v view) shifted(by int) view {
	for i := range v.Stats {
		v.Stats[i].On += by
		v.Stats[i].Off += by
	}
	return v
}
