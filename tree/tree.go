// Package tree: a text as values within values, grown of its tokens.
package tree

import (
	"trail/api"
	"trail/scan"
	"trail/value"
)

// grower has grown a tree as far as its tokens have come.
type grower struct {
	root *value.Value
	open *value.Value // the innermost list or thing that is not closed
	name string       // of the member whose value comes next
}

// Read answers the text's value, or the first error in the text and its place.
func Read(text string) (*value.Value, api.Errno, int) {
	var r scan.Reader
	var g grower
	if errno, at := r.Read(text, g.take); errno != api.OK {
		return nil, errno, at
	}
	if errno, at := r.End(g.take); errno != api.OK {
		return nil, errno, at
	}
	return g.root, api.OK, 0
}

func (g *grower) take(token scan.Token) {
	switch token.Kind {
	case scan.Open:
		g.open = g.add(token)
	case scan.Shut:
		g.open.To = token.To
		g.open = g.open.Holder
	case scan.Name:
		g.name = token.Text
	case scan.Plain:
		g.add(token)
	}
}

func (g *grower) add(token scan.Token) *value.Value {
	v := &value.Value{Kind: token.Of, From: token.From, To: token.To, Number: token.Number, Text: token.Text, Holder: g.open}
	if g.open == nil {
		g.root = v
		return v
	}
	v.Name, g.name = g.name, ""
	v.Index = len(g.open.Within)
	g.open.Within = append(g.open.Within, v)
	return v
}
