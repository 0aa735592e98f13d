// Package value: what a text is made of once it has been read: values within values.
package value

// Kind says what a value is.
type Kind int

const (
	Null Kind = iota
	False
	True
	Number
	String
	List
	Thing
)

// Value is one value. Number and Text have a meaning for the kinds of that name alone.
type Value struct {
	Kind   Kind
	Number int
	Text   string
	Name   string   // by which a thing holds it
	Within []*Value // as they stand in the text
}

// Member leads to the first member of this name, or nowhere (nil).
func (v *Value) Member(name string) *Value {
	if v.Kind != Thing {
		return nil
	}
	for _, member := range v.Within {
		if member.Name == name {
			return member
		}
	}
	return nil
}

// Element leads to the element of this number, or nowhere (nil).
func (v *Value) Element(number int) *Value {
	if v.Kind != List || number < 0 || number >= len(v.Within) {
		return nil
	}
	return v.Within[number]
}

// Equal asks whether v is the other value, which is plain: no list and no thing.
func (v *Value) Equal(other *Value) bool {
	if v.Kind != other.Kind {
		return false
	}
	switch v.Kind {
	case Number:
		return v.Number == other.Number
	case String:
		return v.Text == other.Text
	}
	return true
}

// Less has an order for two numbers and for two strings; nothing else is less than anything.
func (v *Value) Less(other *Value) bool {
	if v.Kind != other.Kind {
		return false
	}
	switch v.Kind {
	case Number:
		return v.Number < other.Number
	case String:
		return v.Text < other.Text
	}
	return false
}
