package tree

import (
	"encoding/json"
	"strconv"
	"strings"
	"testing"

	"trail/api"
	"trail/scan"
	"trail/value"
)

// inner asks whether a value, and all that is within it, is what the library reads of its span.
func inner(t *testing.T, text string, v *value.Value) {
	t.Helper()
	d := json.NewDecoder(strings.NewReader(text[v.From:v.To]))
	d.UseNumber()
	var read any
	if err := d.Decode(&read); err != nil || d.More() {
		t.Errorf("%s: %q is no value: %v", v.Path(), text[v.From:v.To], err)
		return
	}
	switch x := read.(type) {
	case json.Number:
		expect(t, v, v.Kind == value.Number && strconv.Itoa(v.Number) == x.String())
	case string:
		expect(t, v, v.Kind == value.String && v.Text == x[:min(len(x), value.MaxText)])
	case bool:
		expect(t, v, v.Kind == value.True && x || v.Kind == value.False && !x)
	case nil:
		expect(t, v, v.Kind == value.Null)
	case []any:
		expect(t, v, v.Kind == value.List && len(v.Within) == len(x))
	case map[string]any:
		expect(t, v, v.Kind == value.Thing && len(v.Within) >= len(x))
		for _, member := range v.Within {
			_, ok := x[member.Name]
			expect(t, member, ok)
		}
	}
	for index, within := range v.Within {
		expect(t, within, within.Parent == v && within.Index == index)
		inner(t, text, within)
	}
}

func expect(t *testing.T, v *value.Value, ok bool) {
	t.Helper()
	if !ok {
		t.Errorf("%s is %+v", v.Path(), *v)
	}
}

func TestRead(t *testing.T) {
	for _, text := range []string{
		"0", " -12\n", `""`, `"a\"\\b"`, "true", "false", "null", "[]", "{ }", `[1,[2,[3],{}],{"a":[4]}]`, `{"a":{"b":[1,"c"],"":null},"d":"0123456789","a":-999999999}`, " [ { \"a\\\\\" : [ ] } ,\n\n true ] ",
	} {
		root, errno, at := Read(text)
		if root == nil || errno != api.OK || at != 0 {
			t.Errorf("Read(%q) = %v, %d, %d", text, root, errno, at)
			continue
		}
		expect(t, root, root.Parent == nil && text[root.From:root.To] == strings.Trim(text, " \n"))
		inner(t, text, root)
	}
}

func TestReadMembers(t *testing.T) {
	root, _, _ := Read(`{"a":[1],"b":2,"a":3}`)
	names, spans := "", ""
	for _, member := range root.Within {
		names += member.Name
		spans += strconv.Itoa(member.From) + "-" + strconv.Itoa(member.To) + " "
	}
	if names != "aba" || spans != "5-8 13-14 19-20 " || root.Within[0].Within[0].Name != "" {
		t.Errorf("members %s at %s", names, spans)
	}
}

func TestReadOfWrongTexts(t *testing.T) {
	for _, c := range []struct {
		text  string
		errno api.Errno
		at    int
	}{{"[1,]", api.ErrForm, 3}, {"[1", api.ErrForm, 2}, {"", api.ErrForm, 0}, {"[[[[[[[[[", api.ErrDeep, 8}} {
		if root, errno, at := Read(c.text); root != nil || errno != c.errno || at != c.at {
			t.Errorf("Read(%q) = %v, %d, %d, want nil, %d, %d", c.text, root, errno, at, c.errno, c.at)
		}
	}
}

// TestGrower: what it tells, in order; only lists keep what is within them.
func TestGrower(t *testing.T) {
	var told []string
	var root *value.Value
	g := Grower{
		Begins: func(v *value.Value) bool {
			told = append(told, "begins "+v.Path())
			return v.Parent != nil && v.Parent.Kind == value.List
		},
		Closed: func(v *value.Value) {
			told = append(told, "closed "+v.Path()+" "+strconv.Itoa(v.To))
			root = v
		},
	}
	var r scan.Reader
	r.Read(`[7,{"a":1,"b":[2,3]},4]`, g.Take)
	want := "begins $, begins $[0], closed $[0] 2, begins $[1], begins $[1]['a'], closed $[1]['a'] 9, begins $[1]['b'], begins $[1]['b'][0], closed $[1]['b'][0] 16, begins $[1]['b'][1], closed $[1]['b'][1] 18, closed $[1]['b'] 19, closed $[1] 20, begins $[2], closed $[2] 22, closed $ 23"
	if got := strings.Join(told, ", "); got != want {
		t.Errorf("told %s, want %s", got, want)
	}
	if len(root.Within) != 3 || len(root.Within[1].Within) != 0 || root.Within[2].Index != 2 {
		t.Errorf("kept %+v", root.Within)
	}
}
