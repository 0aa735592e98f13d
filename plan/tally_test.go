package plan

import (
	"strconv"
	"strings"
	"testing"

	"trail/tree"
	"trail/value"
)

func made(t *testing.T, query string) *Plan {
	t.Helper()
	p, errno, at := Make(query)
	if p == nil {
		t.Fatalf("Make(%q): %d at %d", query, errno, at)
	}
	return p
}

func TestLateSelectorsAndHeads(t *testing.T) {
	for _, c := range []struct {
		query string
		late  bool
		head  int
	}{
		{"$", false, 0}, {"$.a", false, 1}, {"$..*[0][1:]['x',0]", false, 4}, {"$[-1]", true, 0}, {"$[?@]", true, 0}, {"$..[?@]", true, 0}, {"$[0,1,-1]", true, 0}, {"$[?@,0]", true, 0}, {"$.a[-1]", true, 1}, {"$.a..b[*,?@.c].d", true, 2}, {"$.a.b.c[-1][?@]", true, 3},
	} {
		if p := made(t, c.query); p.Late() != c.late || p.head != c.head {
			t.Errorf("%s: late %v, head of %d segments", c.query, p.Late(), p.head)
		}
	}
}

// TestCount: of a whole text it tells of the nodes that Nodes finds, as they end.
func TestCount(t *testing.T) {
	for _, c := range []struct{ query, text, want string }{
		{"$", "[1]", "$ x1"},
		{"$.a", `{"a":1,"b":2,"a":3}`, "$['a'] x1, $['a'] x1"},
		{"$['b','a',*]", `{"a":1,"b":2}`, "$['a'] x2, $['b'] x2"},
		{"$[1,0,:,0]", "[7,8]", "$[0] x3, $[1] x2"},
		{"$[*][*,0]", "[[1],[2,3]]", "$[0][0] x2, $[1][0] x2, $[1][1] x1"},
		{"$..*", "[[1],2]", "$[0][0] x1, $[0] x1, $[1] x1"},
		{"$..*..*", "[[[1]]]", "$[0][0][0] x2, $[0][0] x1"},
		{"$..*.*", "[[[1]]]", "$[0][0][0] x1, $[0][0] x1"},
		{"$..[0,0]..*", "[[[1]]]", "$[0][0][0] x4, $[0][0] x2"},
		{"$[-1,?@<2].*", "[[1],[2]]", "$[1][0] x1"},
		{"$..[-1,?@<2]", "[[1],1,[1]]", "$[0][0] x2, $[1] x1, $[2][0] x2, $[2] x1"},
		{"$.a", "[1]", ""},
	} {
		p := made(t, c.query)
		root, _, _ := tree.Read(c.text)
		var told []string
		p.Count(root, Outermost(), func(v *value.Value, times int) {
			told = append(told, v.Path()+" x"+strconv.Itoa(times))
		})
		if got := strings.Join(told, ", "); got != c.want {
			t.Errorf("%s of %s: %s, want %s", c.query, c.text, got, c.want)
		}
	}
}

// TestTallyOf: from parent to value, each of which has only begun, as far as the first node of a
// head that has late selectors behind it.
func TestTallyOf(t *testing.T) {
	for _, c := range []struct {
		query string
		want  string // for each value from the outermost on, whether it is a node of the head
	}{
		{"$", "yes no no no no"}, {"$.a", "no yes no no no"}, {"$..a", "no yes no yes no"}, {"$..*", "no yes yes yes yes"}, {"$..a[0]", "no no yes no yes"}, {"$.a[0].a[0].b", "no no no no no"},
		{"$[-1]", "yes"}, {"$[?@.a].a", "yes"}, {"$..a[-1]", "no yes"}, {"$..a[0][?@]", "no no yes"}, {"$.a[0].a[-1,0]", "no no no yes"}, {"$.a[0].a[0][?@]", "no no no no yes"}, {"$.b[?@]", "no no no no no"},
	} {
		p := made(t, c.query)
		tally := Outermost()
		var got []string
		v := &value.Value{Kind: value.Thing}
		for range strings.Fields(c.want) {
			got = append(got, map[bool]string{true: "yes", false: "no"}[p.OfHead(tally)])
			v = begunWithin(v)
			tally = p.TallyOf(v, tally)
		}
		if strings.Join(got, " ") != c.want {
			t.Errorf("%s: %v, want %s", c.query, got, c.want)
		}
	}
}

// begunWithin goes on along {"a":[{"a":[{..
func begunWithin(v *value.Value) *value.Value {
	if v.Kind == value.Thing {
		return &value.Value{Kind: value.List, Parent: v, Name: "a"}
	}
	return &value.Value{Kind: value.Thing, Parent: v}
}
