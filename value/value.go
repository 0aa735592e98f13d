// Package value: what a text is made of once it has been read: values within values.
package value

import (
	"strconv"
	"strings"

	"trail/api"
)

// Kind says what a value is.
type Kind int

const (
	Null Kind = iota
	False
	True
	Number
	String
	List
	Thing
)

// MaxText is how many bytes of a string are held. A constant has fewer, so these tell whether the
// string is one, or is less than it.
const MaxText = api.MaxWord + 1

// Value is one value. Number and Text have a meaning for numbers and strings alone.
type Value struct {
	Kind     Kind
	From, To int // its span
	Number   int
	Text     string   // the first MaxText bytes
	Parent   *Value   // the list or thing that it is directly within; of the text's value nil
	Index    int      // how many values the parent has ahead of it
	Name     string   // by which a thing holds it
	Within   []*Value // those that it keeps, as they stand in the text
}

// Node tells where it stands, and how one comes to it.
func (v *Value) Node() api.Node {
	return api.Node{Path: v.Path(), From: v.From, To: v.To}
}

// Path tells how one comes to it from the text's value.
func (v *Value) Path() string {
	if v.Parent == nil {
		return "$"
	}
	if v.Parent.Kind == List {
		return v.Parent.Path() + "[" + strconv.Itoa(v.Index) + "]"
	}
	return v.Parent.Path() + "['" + escaped(v.Name) + "']"
}

func escaped(name string) string {
	return strings.ReplaceAll(strings.ReplaceAll(name, `\`, `\\`), `'`, `\'`)
}

// Member leads to the first member of this name, or nowhere (nil).
func (v *Value) Member(name string) *Value {
	if v.Kind != Thing {
		return nil
	}
	for _, member := range v.Within {
		if member.Name == name {
			return member
		}
	}
	return nil
}

// Element leads to the element of this number, or nowhere (nil).
func (v *Value) Element(number int) *Value {
	if v.Kind != List || number < 0 || number >= len(v.Within) {
		return nil
	}
	return v.Within[number]
}

// Equal asks whether v is the other value, which is plain: no list and no thing.
func (v *Value) Equal(other *Value) bool {
	if v.Kind != other.Kind {
		return false
	}
	switch v.Kind {
	case Number:
		return v.Number == other.Number
	case String:
		return v.Text == other.Text
	}
	return true
}

// Less has an order for two numbers and for two strings; nothing else is less than anything.
func (v *Value) Less(other *Value) bool {
	if v.Kind != other.Kind {
		return false
	}
	switch v.Kind {
	case Number:
		return v.Number < other.Number
	case String:
		return v.Text < other.Text
	}
	return false
}
