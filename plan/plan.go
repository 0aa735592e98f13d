// Package plan: what a query becomes when it is compiled: its text, and the functions that find its nodes.
package plan

import (
	"strings"

	"trail/api"
	"trail/value"
)

// Plan is a query that is right. It is never changed, so many may follow one plan.
type Plan struct {
	Text     string
	segments []segment
	head     int // how many segments stand ahead of the first late one
}

// Make answers as P2 asks for; beside an error there is no plan.
func Make(query string) (*Plan, api.Errno, int) {
	if len(query) > api.MaxQuery {
		return nil, api.ErrLong, 0
	}
	if errno, at := fault(query); errno != api.OK {
		return nil, errno, at
	}
	// The names that the functions hold are parts of the query, and the caller's string is not to be kept.
	m := maker{query: strings.Clone(query)}
	p := m.plan()
	if m.selectors > api.MaxSelectors {
		return nil, api.ErrLong, 0
	}
	return p, api.OK, 0
}

// Nodes finds the query's nodes, of the text's value, in their order.
func (p *Plan) Nodes(root *value.Value) []*value.Value {
	nodes := []*value.Value{root}
	for _, s := range p.segments {
		var found []*value.Value
		for _, node := range nodes {
			found = s.take(node, found)
		}
		nodes = found
	}
	return nodes
}
