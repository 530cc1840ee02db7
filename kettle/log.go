package kettle

import "stearin/api"

// since returns from which minutes of a log on a thermostat can be stuck, if it called before the log or not. If it cannot be, Lo is above Hi.
func (v view) since(i int, before bool, log []api.KtNote) api.Span {
	s := stat{v.Stats[i]}
	can := api.Span{Lo: 0, Hi: len(log)}
	for minute, note := range log {
		calls := note.Calls[i]
		if calls != s.works(note.Readings[i], before) {
			can.Hi = min(can.Hi, minute)
		}
		if calls != s.sticks(note.Readings[i], before) {
			can.Lo = minute + 1
		}
		before = calls
	}
	return can
}

// convicted returns which thermostat must be stuck in a log with so many notes.
func convicted(since []api.Span, notes int) (who int, e api.Errno) {
	who = none
	for i, can := range since {
		if can.Hi == notes {
			continue
		}
		if who != none {
			return 0, api.ErrTwice
		}
		who = i
	}
	return who, api.OK
}
