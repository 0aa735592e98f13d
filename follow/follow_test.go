package follow

import (
	"slices"
	"strconv"
	"testing"

	"trail/api"
	"trail/plan"
	"trail/scan"
	"trail/value"
)

// sent is what a reader tells of a piece, sent.
func sent(r *scan.Reader, piece string) <-chan scan.Token {
	tokens := make(chan scan.Token, scan.Room(piece))
	r.Read(piece, func(token scan.Token) { tokens <- token })
	close(tokens)
	return tokens
}

func expectFollowed(t *testing.T, query string, pieces []string, want ...string) {
	t.Helper()
	p, errno, at := plan.Make(query)
	if errno != api.OK {
		t.Fatalf("Make(%q): %d at %d", query, errno, at)
	}
	f := New(p)
	var r scan.Reader
	for i, piece := range pieces {
		got := ""
		for _, m := range f.Follow(sent(&r, piece)) {
			got += m.Path + " x" + strconv.Itoa(m.Times) + ";"
		}
		if got != want[i] {
			t.Errorf("%s: %q of %q: %s, want %s", query, piece, pieces, got, want[i])
		}
	}
}

func TestFollow(t *testing.T) {
	pieces := []string{"[[1,2", "],[[3]", "]", ",4]"}
	expectFollowed(t, "$[*]", pieces, "", "$[0] x1;", "$[1] x1;", "$[2] x1;")
	expectFollowed(t, "$..*", pieces, "$[0][0] x1;", "$[0][1] x1;$[0] x1;$[1][0][0] x1;$[1][0] x1;", "$[1] x1;", "$[2] x1;")
	expectFollowed(t, "$[*][-1]", pieces, "", "$[0][1] x1;", "$[1][0] x1;", "")
	expectFollowed(t, "$..*[-1]", pieces, "", "$[0][1] x1;", "$[1][0][0] x1;$[1][0] x1;", "")
	expectFollowed(t, "$[-1,*]", pieces, "", "", "", "$[0] x1;$[1] x1;$[2] x2;")
	expectFollowed(t, "$", pieces, "", "", "", "$ x1;")
}

// TestFollowKeepsNothingElse: only a holder keeps what is within it, and nothing keeps a holder that is closed.
func TestFollowKeepsNothingElse(t *testing.T) {
	for _, c := range []struct {
		query, text string
		want        []int // how many values are kept by the list that began last, and by those that it is within
	}{
		{"$..*", "[[1],[2,3,", []int{0, 0}}, {"$[*][-1]", "[[1],[2,3,", []int{2, 0}}, {"$[0][-1]", "[[1],[2,3,", []int{0, 0}}, {"$[-1]", "[[1],[2,3,", []int{2, 2}}, {"$[*][-1]", "[[1],[2,3],", []int{2, 0}}, {"$..*[?@]", "[0,[[1],[2,3],", []int{2, 2, 0}},
	} {
		p, _, _ := plan.Make(c.query)
		f := New(p)
		begins := f.grower.Begins
		var last *value.Value
		f.grower.Begins = func(v *value.Value) bool {
			if v.Kind == value.List {
				last = v
			}
			return begins(v)
		}
		var r scan.Reader
		f.Follow(sent(&r, c.text))
		var kept []int
		for v := last; v != nil; v = v.Parent {
			kept = append(kept, len(v.Within))
		}
		if !slices.Equal(kept, c.want) {
			t.Errorf("%s: %v, want %v", c.query, kept, c.want)
		}
	}
}
