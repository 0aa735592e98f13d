// Package trail: what a query finds in a text of values within values: see DOC.md.
package trail

import (
	"trail/api"
	"trail/plan"
	"trail/tree"
)

// Query is a query.
type Query struct {
	plan *plan.Plan
}

// Compile reads a query (P2).
func Compile(query string) (*Query, api.Errno, int) {
	p, errno, at := plan.Make(query)
	if errno != api.OK {
		return nil, errno, at
	}
	return &Query{plan: p}, api.OK, 0
}

// Text writes it (P3).
func (q *Query) Text() string { return q.plan.Text }

// Select tells its nodes in a text (P4).
func (q *Query) Select(text string) ([]api.Node, api.Errno, int) {
	root, errno, at := tree.Read(text)
	if errno != api.OK {
		return nil, errno, at
	}
	var nodes []api.Node
	for _, v := range q.plan.Nodes(root) {
		nodes = append(nodes, api.Node{Path: v.Path(), From: v.From, To: v.To})
	}
	return nodes, api.OK, 0
}

// Stream follows a text that comes in pieces.
type Stream struct{}

// Stream makes a stream (P5).
func (q *Query) Stream() *Stream { return nil }

// Feed takes a piece (P5).
func (s *Stream) Feed(piece string) ([]api.Match, api.Errno, int) { return nil, api.OK, 0 }

// Close ends the text (P5).
func (s *Stream) Close() ([]api.Match, api.Errno, int) { return nil, api.OK, 0 }
