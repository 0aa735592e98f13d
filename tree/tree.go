// Package tree: a text as values within values, grown of its tokens.
package tree

import (
	"trail/api"
	"trail/scan"
	"trail/value"
)

// Grower makes the values of a text of its tokens, which it takes as they come.
type Grower struct {
	Begins func(v *value.Value) bool // told of each value that begins; answers whether its parent keeps it
	Closed func(v *value.Value)      // told of each value that is closed
	open   *value.Value              // the innermost list or thing that is not closed
	name   string                    // of the member whose value comes next
	index  int                       // of the value that comes next
}

// Read answers the text's value, or the first error in the text and its place.
func Read(text string) (*value.Value, api.Errno, int) {
	var r scan.Reader
	var last *value.Value
	g := Grower{
		Begins: func(v *value.Value) bool { return true },
		Closed: func(v *value.Value) { last = v },
	}
	if errno, at := r.Read(text, g.Take); errno != api.OK {
		return nil, errno, at
	}
	if errno, at := r.End(g.Take); errno != api.OK {
		return nil, errno, at
	}
	return last, api.OK, 0
}

// Take takes the next token.
func (g *Grower) Take(token scan.Token) {
	switch token.Kind {
	case scan.Open:
		g.open = g.begin(token)
		g.index = 0
	case scan.Shut:
		g.close(g.open, token.To)
	case scan.Name:
		g.name = token.Text
	case scan.Plain:
		g.close(g.begin(token), token.To)
	}
}

func (g *Grower) begin(token scan.Token) *value.Value {
	v := &value.Value{Kind: token.Of, From: token.From, Number: token.Number, Text: token.Text, Parent: g.open, Index: g.index, Name: g.name}
	g.name = ""
	if g.Begins(v) && g.open != nil {
		g.open.Within = append(g.open.Within, v)
	}
	return v
}

func (g *Grower) close(v *value.Value, to int) {
	v.To = to
	g.open = v.Parent
	g.index = v.Index + 1
	g.Closed(v)
}
