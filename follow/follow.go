// Package follow: what is to be told of a query's nodes, as the tokens of a text come.
package follow

import (
	"trail/api"
	"trail/plan"
	"trail/scan"
	"trail/tree"
	"trail/value"
)

// Follower follows one text. It keeps the values that are open, and all that is within a holder until
// that is closed.
type Follower struct {
	plan    *plan.Plan
	grower  tree.Grower
	tallies []plan.Tally // of the open values down to the holder, as they began; that of the innermost is the last
	holder  *value.Value // if it is open, and a selector of the query is late; else nil
	told    []api.Match  // by the present call
}

// New makes a follower to which nothing has come.
func New(p *plan.Plan) *Follower {
	f := &Follower{plan: p}
	f.grower = tree.Grower{Begins: f.begins, Closed: f.closed}
	return f
}

// Follow goes through the next tokens, and answers what is to be told of them.
func (f *Follower) Follow(tokens <-chan scan.Token) []api.Match {
	for token := range tokens {
		f.grower.Take(token)
	}
	told := f.told
	f.told = nil
	return told
}

func (f *Follower) begins(v *value.Value) bool {
	if f.holder != nil {
		return true
	}
	tally := f.tallyOf(v)
	f.tallies = append(f.tallies, tally)
	if f.plan.Late() && f.plan.OfHead(tally) {
		f.holder = v
	}
	return false
}

func (f *Follower) tallyOf(v *value.Value) plan.Tally {
	if v.Parent == nil {
		return plan.Outermost()
	}
	return f.plan.TallyOf(v, f.tallies[len(f.tallies)-1])
}

// closed: what a holder keeps is counted with the holder, and every other value by itself, as it
// has kept nothing.
func (f *Follower) closed(v *value.Value) {
	if f.holder != nil && f.holder != v {
		return
	}
	innermost := len(f.tallies) - 1
	f.plan.Count(v, f.tallies[innermost], f.tell)
	f.tallies = f.tallies[:innermost]
	f.holder = nil
}

func (f *Follower) tell(v *value.Value, times int) {
	f.told = append(f.told, api.Match{Node: v.Node(), Times: times})
}
