package plan

import (
	"slices"
	"strconv"
	"strings"
	"testing"

	"trail/api"
	"trail/tree"
	"trail/value"
)

func nodesOf(p *Plan, text string) string {
	root, errno, at := tree.Read(text)
	if errno != api.OK {
		return "the text is wrong at " + strconv.Itoa(at)
	}
	var told []string
	for _, node := range p.Nodes(root) {
		told = append(told, node.Path())
	}
	return strings.Join(told, " ")
}

func expectNodes(t *testing.T, query, text, want string) {
	t.Helper()
	p, errno, at := Make(query)
	if errno != api.OK || at != 0 {
		t.Errorf("Make(%q): %d at %d", query, errno, at)
		return
	}
	// Twice: the functions are made once and hold nothing that a use of them changes.
	for range 2 {
		if got := nodesOf(p, text); got != want {
			t.Errorf("nodes of %q in %s: %q, want %q", query, text, got, want)
		}
	}
}

func TestSelectors(t *testing.T) {
	for _, c := range []struct{ query, text, want string }{
		{"$", `[1]`, "$"},
		{"$.a", `{"a":1,"b":2,"a":3}`, "$['a'] $['a']"},
		{"$.a", `["a"]`, ""},
		{"$['']", `{"":1}`, "$['']"},
		{"$['0 z']", `{"0 z":1}`, "$['0 z']"},
		{"$['0']", `[1]`, ""},
		{"$.*", `{"a":1,"b":[2]}`, "$['a'] $['b']"},
		{"$.*", `7`, ""},
		{"$[*]", `[1,[2]]`, "$[0] $[1]"},
		{"$[1]", `[1,2,3]`, "$[1]"},
		{"$[3]", `[1,2,3]`, ""},
		{"$[0]", `{"a":1}`, ""},
		{"$[-1]", `[1,2,3]`, "$[2]"},
		{"$[-3]", `[1,2,3]`, "$[0]"},
		{"$[-4]", `[1,2,3]`, ""},
		{"$[-1]", `{"a":1}`, ""},
		{"$[1:2]", `[1,2,3]`, "$[1]"},
		{"$[2:1]", `[1,2,3]`, ""},
		{"$[:2]", `[1,2,3]`, "$[0] $[1]"},
		{"$[1:]", `[1,2,3]`, "$[1] $[2]"},
		{"$[:]", `[1,2,3]`, "$[0] $[1] $[2]"},
		{"$[1:999]", `[1,2,3]`, "$[1] $[2]"},
		{"$[:]", `{"a":1}`, ""},
		{"$[0,0,-1]", `[7]`, "$[0] $[0] $[0]"},
		{"$[1,*,0]", `[1,2]`, "$[1] $[0] $[1] $[0]"},
		{"$[?@]", `{"a":1,"b":2}`, "$['a'] $['b']"},
		{"$[?@<3]", `[1,5,2]`, "$[0] $[2]"},
		{"$[?@]", `7`, ""},
	} {
		expectNodes(t, c.query, c.text, c.want)
	}
}

func TestSegments(t *testing.T) {
	for _, c := range []struct{ query, text, want string }{
		{"$..a", `{"a":[1,{"a":2}]}`, "$['a'] $['a'][1]['a']"},
		{"$..*", `[[1],2]`, "$[0] $[1] $[0][0]"},
		{"$..[0,-1]", `[[1,2],3]`, "$[0] $[1] $[0][0] $[0][1]"},
		{"$..*..*", `[[[1]]]`, "$[0][0] $[0][0][0] $[0][0][0]"},
		{"$[1,0].a", `[{"a":1},{"a":2}]`, "$[1]['a'] $[0]['a']"},
		{"$.a.b[0]", `{"a":{"b":[5]}}`, "$['a']['b'][0]"},
		{"$..[?@.x]", `[{"x":{"x":1}}]`, "$[0] $[0]['x']"},
	} {
		expectNodes(t, c.query, c.text, c.want)
	}
}

// TestConditions: each text is a list of one element; the condition is met by it or not.
func TestConditions(t *testing.T) {
	for _, c := range []struct {
		condition, element string
		met                bool
	}{
		{"@", `null`, true}, {"@.a", `{"a":null}`, true}, {"@.a", `{"b":1}`, false}, {"@.a", `["a"]`, false}, {"!@.a", `{"b":1}`, true}, {"!!@.a", `{"b":1}`, false},
		{"@.a==1", `{"a":1,"a":2}`, true}, {"@.a==2", `{"a":1,"a":2}`, false}, {"@.a.b==2", `{"a":{"b":2}}`, true}, {"@.a.b", `{"c":{"b":2}}`, false},
		{"@[0]", `[7]`, true}, {"@[1]", `[7]`, false}, {"@[-1]==8", `[7,8]`, true}, {"@[-3]", `[7,8]`, false}, {"@[0]", `{"a":1}`, false}, {"@[-1]", `{"a":1}`, false}, {"@.a[1].b[-1]", `{"a":[0,{"b":[1]}]}`, true},
		{"@==12", `12`, true}, {"@==12", `"12"`, false}, {"@==-12", `-12`, true}, {"@==0", `0`, true}, {"@=='a b'", `"a b"`, true}, {"@==''", `""`, true}, {"@==''", `null`, false},
		{"@==true", `true`, true}, {"@==true", `false`, false}, {"@==false", `false`, true}, {"@==null", `null`, true}, {"@==null", `0`, false}, {"@==null", `[]`, false}, {"@.a==null", `{}`, false},
		{"@!=1", `1`, false}, {"@!=1", `2`, true}, {"@!=1", `[1]`, true}, {"@.a!=1", `{}`, true}, {"@.a!=null", `{}`, true},
		{"@<1", `0`, true}, {"@<1", `1`, false}, {"@<-1", `-2`, true}, {"@<'b'", `"a"`, true}, {"@<'b'", `"b"`, false}, {"@<'b'", `"ba"`, false}, {"@<'ba'", `"b"`, true}, {"@<'a'", `"Z"`, true}, {"@<1", `"0"`, false}, {"@<'1'", `0`, false},
		{"@<true", `false`, false}, {"@<null", `null`, false}, {"@.a<1", `{}`, false}, {"@<1", `[]`, false},
		{"@<=1", `1`, true}, {"@<=1", `0`, true}, {"@<=1", `2`, false}, {"@<='a'", `"a"`, true}, {"@<=true", `true`, true}, {"@<=true", `false`, false}, {"@<=null", `null`, true}, {"@.a<=null", `{}`, false},
		{"@==1||@==2", `2`, true}, {"@==1||@==2", `3`, false}, {"@<5&&@!=3", `4`, true}, {"@<5&&@!=3", `3`, false}, {"@==1||@<9&&@==3", `1`, true}, {"@==3&&@<9||@==1", `1`, true}, {"(@==1||@<9)&&@==3", `1`, false},
		{"!@==1&&@==2", `2`, true}, {"!(@==1&&@==2)", `1`, true}, {"!(@==1||@==2)", `2`, false}, {"!@==1||@==1", `1`, true}, {"@.x<=2&&!@.y", `{"x":2}`, true}, {"@.x<=2&&!@.y", `{"x":1,"y":0}`, false},
	} {
		want := ""
		if c.met {
			want = "$[0]"
		}
		expectNodes(t, "$[?"+c.condition+"]", "["+c.element+"]", want)
	}
}

func TestSegmentsAddToWhatWasFound(t *testing.T) {
	p, _, _ := Make("$..[0]")
	list := &value.Value{Kind: value.List}
	first, second := &value.Value{}, &value.Value{Parent: list}
	list.Within = []*value.Value{second}
	if found := p.segments[0].take(list, []*value.Value{first}); !slices.Equal(found, []*value.Value{first, second}) {
		t.Errorf("found %v", found)
	}
}
