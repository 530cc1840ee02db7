package wax

import "stearin/api"

// bound tightens a range of parts.
type bound func(api.Span) api.Span

// tighten returns what several bounds leave of a range of parts.
func tighten(parts api.Span, bounds ...bound) api.Span {
	for _, b := range bounds {
		parts = b(parts)
	}
	return parts
}

// bounds returns the bounds of the parts of a in a mixture of a and b.
func (s sample) bounds(a, b int) []bound {
	var list []bound
	for i, reading := range s.readings {
		if reading == api.WxUnknown {
			continue
		}
		x, y := s.Kinds[a].Props[i], s.Kinds[b].Props[i]
		least, most := reading-s.Props[i].Error, reading+s.Props[i].Error
		// The property can have each value between the means of the lower and of the upper ends. So the readings are explained just if the lower mean is not above most, and the upper one not below least.
		list = append(list,
			atMost(x.Lo-y.Lo, api.All*(most-y.Lo)),
			atMost(y.Hi-x.Hi, api.All*(y.Hi-least)))
	}
	return list
}

// atMost returns the bound that factor times the parts is at most limit.
func atMost(factor, limit int) bound {
	return func(parts api.Span) api.Span {
		switch {
		case factor > 0:
			parts.Hi = min(parts.Hi, floor(limit, factor))
		case factor < 0:
			parts.Lo = max(parts.Lo, -floor(limit, -factor))
		case limit < 0:
			parts.Hi = parts.Lo - 1
		}
		return parts
	}
}

// floor returns a divided by b, which is positive, rounded down.
func floor(a, b int) int {
	if a%b < 0 {
		return a/b - 1
	}
	return a / b
}

// found returns the least part of a kind that one property, which can be wrong by so much, shows in a pure kind; it is above All if there is none.
func found(pure, other api.Span, wrong int) int {
	// The mixture moves away from the range of the pure kind upwards by its lower end, or downwards by its upper end. Either way it has to leave all of this range behind it, and what both readings can be wrong.
	away := max(other.Lo-pure.Lo, pure.Hi-other.Hi)
	if away <= 0 {
		return api.All + 1
	}
	return api.All*(pure.Hi-pure.Lo+2*wrong)/away + 1
}
