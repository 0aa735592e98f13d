package plan

import (
	"trail/api"
	"trail/value"
)

// count says how often a value is among nodes.
type count struct {
	itself int
	all    int // it and all values that it is within
}

// Tally has the counts of a value: at each place those among the nodes of the query's first
// segments, that many. Each segment has a selector, so there are no more than fit in.
type Tally [api.MaxSelectors + 1]count

// Outermost is the tally of the text's value: `$` takes it, and no segment does.
func Outermost() Tally {
	return Tally{{itself: 1, all: 1}}
}

// TallyOf goes on to a value from the tally of its parent. The value need only have begun if its
// parent is no node of the head, and within none: then no late selector has a say.
func (p *Plan) TallyOf(v *value.Value, parent Tally) Tally {
	tally := Tally{{all: parent[0].all}}
	for i, s := range p.segments {
		times := s.count(parent[i], v)
		tally[i+1] = count{itself: times, all: parent[i+1].all + times}
	}
	return tally
}

// Late asks whether the query has a late selector.
func (p *Plan) Late() bool { return p.head < len(p.segments) }

// OfHead asks whether the value that has this tally is a node of the head.
func (p *Plan) OfHead(tally Tally) bool { return tally[p.head].itself > 0 }

// Count tells of the nodes that are a closed value, or are kept within it, as they end, and of how
// often each is there.
func (p *Plan) Count(v *value.Value, tally Tally, tell func(node *value.Value, times int)) {
	for _, within := range v.Within {
		p.Count(within, p.TallyOf(within, tally), tell)
	}
	if times := tally[len(p.segments)].itself; times > 0 {
		tell(v, times)
	}
}
