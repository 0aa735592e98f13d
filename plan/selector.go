package plan

import "trail/value"

// selectorKind says by what a selector tells the values that it takes from the others.
type selectorKind int

const (
	every selectorKind = iota
	named
	counted
	fromEnd
	piece
	filtered
)

// selector is what stands in a query. Beside kind, it has what that kind needs.
type selector struct {
	kind     selectorKind
	name     string
	from, to int // a piece alone has both
	met      condition
}

// late: what it takes hangs on the end of the value that it takes from.
func (s selector) late() bool { return s.kind == fromEnd || s.kind == filtered }

// taking tells whether a selector takes a value of the one that it is directly within. A selector
// takes values as they stand and none of them twice, so this is all that is to be known of it.
type taking func(v *value.Value) bool

func (s selector) taking() taking {
	switch s.kind {
	case named:
		return func(v *value.Value) bool { return v.Parent.Kind == value.Thing && v.Name == s.name }
	case counted:
		return func(v *value.Value) bool { return v.Parent.Kind == value.List && v.Index == s.from }
	case fromEnd:
		return func(v *value.Value) bool {
			return v.Parent.Kind == value.List && v.Index == len(v.Parent.Within)-s.from
		}
	case piece:
		return func(v *value.Value) bool {
			return v.Parent.Kind == value.List && v.Index >= s.from && v.Index < s.to
		}
	case filtered:
		return taking(s.met)
	}
	return func(v *value.Value) bool { return true }
}
