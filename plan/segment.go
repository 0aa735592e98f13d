package plan

import "trail/value"

// segment is what a segment of a query becomes.
type segment struct {
	take  taker
	count counter
	late  bool // one of its selectors is
}

// taker adds what the segment takes of a value to what was found ahead of that.
type taker func(v *value.Value, found []*value.Value) []*value.Value

// counter tells how often the segment takes a value, from how often the parent of that is among the
// nodes without the segment.
type counter func(parent count, v *value.Value) int

func segmentOf(throughout bool, selectors []selector) segment {
	var takings []taking
	late := false
	for _, s := range selectors {
		takings = append(takings, s.taking())
		late = late || s.late()
	}
	if throughout {
		return segment{take: takeThroughout(takeDirect(takings)), count: countThroughout(takings), late: late}
	}
	return segment{take: takeDirect(takings), count: countDirect(takings), late: late}
}

// takeDirect takes of the value itself alone.
func takeDirect(takings []taking) taker {
	return func(v *value.Value, found []*value.Value) []*value.Value {
		for _, takes := range takings {
			for _, within := range v.Within {
				if takes(within) {
					found = append(found, within)
				}
			}
		}
		return found
	}
}

// takeThroughout takes of the value, and then of all that is within it.
func takeThroughout(direct taker) taker {
	var take taker
	take = func(v *value.Value, found []*value.Value) []*value.Value {
		found = direct(v, found)
		for _, within := range v.Within {
			found = take(within, found)
		}
		return found
	}
	return take
}

func countDirect(takings []taking) counter {
	return func(parent count, v *value.Value) int { return taken(parent.itself, takings, v) }
}

// countThroughout: the segment comes to the value from all nodes around the parent, too.
func countThroughout(takings []taking) counter {
	return func(parent count, v *value.Value) int { return taken(parent.all, takings, v) }
}

// taken: each selector that takes a value does so once for each of the nodes.
func taken(nodes int, takings []taking, v *value.Value) int {
	times := 0
	for _, takes := range takings {
		if nodes > 0 && takes(v) {
			times += nodes
		}
	}
	return times
}
