package value

import (
	"testing"

	"trail/api"
)

func TestPath(t *testing.T) {
	root := &Value{Kind: List}
	thing := &Value{Kind: Thing, Parent: root, Index: 12}
	for _, c := range []struct {
		v    *Value
		want string
	}{
		{root, "$"},
		{thing, "$[12]"},
		{&Value{Parent: thing, Name: "a b"}, "$[12]['a b']"},
		{&Value{Parent: thing, Index: 3}, "$[12]['']"},
		{&Value{Parent: thing, Name: `'`}, `$[12]['\'']`},
		{&Value{Parent: thing, Name: `\`}, `$[12]['\\']`},
		{&Value{Parent: thing, Name: `\'"'\`}, `$[12]['\\\'"\'\\']`},
	} {
		if path := c.v.Path(); path != c.want {
			t.Errorf("path %s, want %s", path, c.want)
		}
	}
}

// TestHeldTextIsEnough: a string of which only the first bytes are held is equal to a constant, or
// less than it, if the whole string is.
func TestHeldTextIsEnough(t *testing.T) {
	for _, constant := range []string{"", "a", "aaaaaaa", "aaaaaaaa", "aaaaaaab", "b"} {
		for _, whole := range []string{"", "a", "aaaaaaaa", "aaaaaaaaa", "aaaaaaaaaa", "aaaaaaaab", "aaaaaaabaaa", "aaaaaaab", "bbbbbbbbbbbb", "Z12345678901"} {
			held := &Value{Kind: String, Text: whole[:min(len(whole), MaxText)]}
			other := &Value{Kind: String, Text: constant}
			if held.Equal(other) != (whole == constant) || held.Less(other) != (whole < constant) {
				t.Errorf("%q and %q: equal %v, less %v", whole, constant, held.Equal(other), held.Less(other))
			}
		}
	}
}

func TestNode(t *testing.T) {
	v := &Value{Parent: &Value{Kind: List}, Index: 2, From: 5, To: 7}
	if n := v.Node(); n != (api.Node{Path: "$[2]", From: 5, To: 7}) {
		t.Errorf("node %v", n)
	}
}
