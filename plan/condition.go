package plan

import "trail/value"

// condition tells whether a value meets it.
type condition func(v *value.Value) bool

// lead goes from a value to another one, or nowhere (nil).
type lead func(v *value.Value) *value.Value

func oneMet(parts []condition) condition {
	return func(v *value.Value) bool {
		for _, part := range parts {
			if part(v) {
				return true
			}
		}
		return false
	}
}

func allMet(parts []condition) condition {
	return func(v *value.Value) bool {
		for _, part := range parts {
			if !part(v) {
				return false
			}
		}
		return true
	}
}

func notMet(part condition) condition {
	return func(v *value.Value) bool { return !part(v) }
}

func isThere(leads lead) condition {
	return func(v *value.Value) bool { return leads(v) != nil }
}

func isEqual(leads lead, constant *value.Value) condition {
	return func(v *value.Value) bool {
		to := leads(v)
		return to != nil && to.Equal(constant)
	}
}

func isLess(leads lead, constant *value.Value) condition {
	return func(v *value.Value) bool {
		to := leads(v)
		return to != nil && to.Less(constant)
	}
}

func leadBy(steps []lead) lead {
	return func(v *value.Value) *value.Value {
		for _, step := range steps {
			v = step(v)
			if v == nil {
				return nil
			}
		}
		return v
	}
}

func toMember(name string) lead {
	return func(v *value.Value) *value.Value { return v.Member(name) }
}

func toElement(number int) lead {
	return func(v *value.Value) *value.Value { return v.Element(number) }
}

func toElementFromEnd(number int) lead {
	return func(v *value.Value) *value.Value { return v.Element(len(v.Within) - number) }
}
