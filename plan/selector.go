package plan

import "trail/value"

// selectorKind says by what a selector tells the values that it takes from the others.
type selectorKind int

const (
	every selectorKind = iota
	named
	counted
	fromEnd
	piece
	filtered
)

// selector is what stands in a query. Beside kind, it has what that kind needs.
type selector struct {
	kind     selectorKind
	name     string
	from, to int // a piece alone has both
	met      condition
}

// taking tells whether a selector takes, of a value, the one within it that has this number. A
// selector takes values as they stand and none of them twice, so this is all that is to be known of it.
type taking func(v *value.Value, number int) bool

func (s selector) taking() taking {
	switch s.kind {
	case named:
		return func(v *value.Value, number int) bool {
			return v.Kind == value.Thing && v.Within[number].Name == s.name
		}
	case counted:
		return func(v *value.Value, number int) bool {
			return v.Kind == value.List && number == s.from
		}
	case fromEnd:
		return func(v *value.Value, number int) bool {
			return v.Kind == value.List && number == len(v.Within)-s.from
		}
	case piece:
		return func(v *value.Value, number int) bool {
			return v.Kind == value.List && number >= s.from && number < s.to
		}
	case filtered:
		return func(v *value.Value, number int) bool { return s.met(v.Within[number]) }
	}
	return func(v *value.Value, number int) bool { return true }
}

// takeDirect makes the segment that takes of the value itself alone.
func takeDirect(selectors []selector) segment {
	var takings []taking
	for _, s := range selectors {
		takings = append(takings, s.taking())
	}
	return func(v *value.Value, found []*value.Value) []*value.Value {
		for _, takes := range takings {
			for number, within := range v.Within {
				if takes(v, number) {
					found = append(found, within)
				}
			}
		}
		return found
	}
}

// takeThroughout makes the segment that takes of the value, and then of all that is within it.
func takeThroughout(direct segment) segment {
	var take segment
	take = func(v *value.Value, found []*value.Value) []*value.Value {
		found = direct(v, found)
		for _, within := range v.Within {
			found = take(within, found)
		}
		return found
	}
	return take
}
