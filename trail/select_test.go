package trail

import (
	"slices"
	"strconv"
	"strings"
	"testing"

	"trail/api"
)

func compiled(t *testing.T, query string) *Query {
	t.Helper()
	q, errno, at := Compile(query)
	if errno != api.OK {
		t.Fatalf("P2: Compile(%q): %d at %d", query, errno, at)
	}
	return q
}

func writtenNode(n api.Node) string {
	return n.Path + " " + strconv.Itoa(n.From) + "-" + strconv.Itoa(n.To)
}

func writtenNodes(nodes []api.Node) string {
	var written []string
	for _, n := range nodes {
		written = append(written, writtenNode(n))
	}
	return strings.Join(written, ", ")
}

// selected: what a query finds in a text: paths and spans with `, ` between each two.
type selected struct{ query, text, want string }

func expectSelected(t *testing.T, cases []selected) {
	t.Helper()
	for _, c := range cases {
		nodes, errno, at := compiled(t, c.query).Select(c.text)
		if got := writtenNodes(nodes); got != c.want || errno != api.OK || at != 0 {
			t.Errorf("P4: %s of %.80q = %q, %d, %d, want %q", c.query, c.text, got, errno, at, c.want)
		}
	}
}

// wrongText: a text in which no query finds anything but an error and a place.
type wrongText struct {
	text  string
	errno api.Errno
	at    int
}

func expectWrong(t *testing.T, cases []wrongText) {
	t.Helper()
	for _, query := range []string{"$", "$..*", "$.a[?@]"} {
		q := compiled(t, query)
		for _, c := range cases {
			if nodes, errno, at := q.Select(c.text); len(nodes) != 0 || errno != c.errno || at != c.at {
				t.Errorf("P4: %s of %.80q = %v, %d, %d, want none, %d, %d", query, c.text, nodes, errno, at, c.errno, c.at)
			}
		}
	}
}

func TestSelectTheTextsValue(t *testing.T) {
	expectSelected(t, []selected{
		{"$", "0", "$ 0-1"}, {"$", "7", "$ 0-1"}, {"$", "-1", "$ 0-2"}, {"$", "100", "$ 0-3"}, {"$", "999999999", "$ 0-9"}, {"$", "-999999999", "$ 0-10"}, {"$", "true", "$ 0-4"}, {"$", "false", "$ 0-5"}, {"$", "null", "$ 0-4"},
		{"$", `""`, "$ 0-2"}, {"$", `" "`, "$ 0-3"}, {"$", `"~"`, "$ 0-3"}, {"$", `"\""`, "$ 0-4"}, {"$", `"\\"`, "$ 0-4"}, {"$", `"\\\""`, "$ 0-6"}, {"$", `"/'[]{},:"`, "$ 0-10"}, {"$", "[]", "$ 0-2"}, {"$", "{}", "$ 0-2"}, {"$", `{"":0}`, "$ 0-6"},
		{"$", " 0 ", "$ 1-2"}, {"$", "\n\n1\n", "$ 2-3"}, {"$", " \n true\n ", "$ 3-7"}, {"$", "  [ ]", "$ 2-5"}, {"$", "{\n}  ", "$ 0-3"},
		{"$.a", "0", ""}, {"$[0]", `"a"`, ""}, {"$..*", "null", ""}, {"$[?@]", "true", ""}, {"$..[?@]", "7", ""},
	})
}

func TestSelectBetweenBlanks(t *testing.T) {
	const tight, wide = `[{"a":1,"b":[]},2]`, " \n[ \n{ \n\"a\" \n: \n1 \n, \n\"b\" \n: \n[ \n] \n} \n, \n2 \n] \n"
	expectSelected(t, []selected{
		{"$..*", tight, "$[0] 1-15, $[1] 16-17, $[0]['a'] 6-7, $[0]['b'] 12-14"},
		{"$..*", wide, "$[0] 5-37, $[1] 42-43, $[0]['a'] 16-17, $[0]['b'] 30-34"},
		{"$", wide, "$ 2-46"},
	})
}

func TestSelectMembers(t *testing.T) {
	const text = `{"a":1,"b":{"a":2},"a":[3],"":4,"0 z":5,"ab":6}`
	expectSelected(t, []selected{
		{"$.a", text, "$['a'] 5-6, $['a'] 23-26"},
		{"$['a','a']", text, "$['a'] 5-6, $['a'] 23-26, $['a'] 5-6, $['a'] 23-26"},
		{"$['b','a']", text, "$['b'] 11-18, $['a'] 5-6, $['a'] 23-26"},
		{"$.b.a", text, "$['b']['a'] 16-17"}, {"$.a[0]", text, "$['a'][0] 24-25"},
		{"$['']", text, "$[''] 30-31"}, {"$['0 z']", text, "$['0 z'] 38-39"}, {"$.ab", text, "$['ab'] 45-46"},
		{"$.abc", text, ""}, {"$['0']", text, ""}, {"$['a ']", text, ""}, {"$.a.a", text, ""}, {"$.a", `["a"]`, ""}, {"$['0']", `[1]`, ""}, {"$.a", "{}", ""},
		{"$.*", text, "$['a'] 5-6, $['b'] 11-18, $['a'] 23-26, $[''] 30-31, $['0 z'] 38-39, $['ab'] 45-46"},
		{"$[*,'a']", `{"a":1,"b":2}`, "$['a'] 5-6, $['b'] 11-12, $['a'] 5-6"},
	})
}

func TestSelectNames(t *testing.T) {
	expectSelected(t, []selected{
		{"$.*", `{"'":1}`, `$['\''] 5-6`}, {"$.*", `{"\\":1}`, `$['\\'] 6-7`}, {"$.*", `{"\"":1}`, `$['"'] 6-7`}, {"$.*", `{"'\\'\"":1}`, `$['\'\\\'"'] 10-11`}, {"$.*", `{"a'":1,"\\n":2}`, `$['a\''] 6-7, $['\\n'] 14-15`},
		{"$.*.*", `{"'":{"\\":[1]}}`, `$['\'']['\\'] 11-14`}, {"$..*", `{"]['":1}`, `$['][\''] 7-8`},
		{"$.abcdefgh", `{"abcdefghi":1,"abcdefgh":2}`, "$['abcdefgh'] 26-27"},
		{"$.*", `{"` + strings.Repeat("x", 1000) + `":1}`, "$['" + strings.Repeat("x", 1000) + "'] 1004-1005"},
		{"$.*", `{"$[0]":1," ~":2}`, "$['$[0]'] 8-9, $[' ~'] 15-16"},
	})
}

func TestSelectElements(t *testing.T) {
	const text = "[10,20,30,40]"
	const first, second, third, last = "$[0] 1-3", "$[1] 4-6", "$[2] 7-9", "$[3] 10-12"
	row := func(nodes ...string) string { return strings.Join(nodes, ", ") }
	expectSelected(t, []selected{
		{"$[0]", text, first}, {"$[3]", text, last}, {"$[4]", text, ""}, {"$[999]", text, ""}, {"$[0]", "[]", ""}, {"$[0]", `{"0":1}`, ""}, {"$[0]", `{"a":1}`, ""}, {"$[0]", `"abc"`, ""},
		{"$[-1]", text, last}, {"$[-4]", text, first}, {"$[-5]", text, ""}, {"$[-999]", text, ""}, {"$[-1]", "[]", ""}, {"$[-1]", `{"a":1}`, ""},
		{"$[1:3]", text, row(second, third)}, {"$[:2]", text, row(first, second)}, {"$[2:]", text, row(third, last)}, {"$[:]", text, row(first, second, third, last)}, {"$[0:999]", text, row(first, second, third, last)}, {"$[4:]", text, ""}, {"$[:0]", text, ""}, {"$[2:2]", text, ""}, {"$[3:1]", text, ""}, {"$[:]", "[]", ""}, {"$[:]", `{"a":1}`, ""}, {"$[0:1]", `"abc"`, ""},
		{"$[*]", text, row(first, second, third, last)}, {"$.*", text, row(first, second, third, last)},
		{"$[3,0]", text, row(last, first)}, {"$[-1,-1,3]", text, row(last, last, last)}, {"$[2:,:2]", text, row(third, last, first, second)}, {"$[1:3,2:4]", text, row(second, third, third, last)}, {"$['a',1,5,-2]", text, row(second, third)}, {"$[?@<30,1,*]", text, row(first, second, second, first, second, third, last)},
		{"$[0,0,-1]", "[7]", "$[0] 1-2, $[0] 1-2, $[0] 1-2"},
	})
}

func TestSelectManySegments(t *testing.T) {
	expectSelected(t, []selected{
		{"$[*][0]", "[[1,2],3,[4]]", "$[0][0] 2-3, $[2][0] 10-11"},
		{"$[2,0][*]", "[[1,2],3,[4]]", "$[2][0] 10-11, $[0][0] 2-3, $[0][1] 4-5"},
		{"$[0,0][1,0]", "[[1,2]]", "$[0][1] 4-5, $[0][0] 2-3, $[0][1] 4-5, $[0][0] 2-3"},
		{"$.a.*.b[-1]", `{"a":{"x":{"b":[1,2]},"y":{"b":[3]},"z":{"b":[]}}}`, "$['a']['x']['b'][1] 18-19, $['a']['y']['b'][0] 32-33"},
		{"$[-1][-1]", "[[1,2],[3]]", "$[1][0] 8-9"},
		{"$[?@[0]][0]", "[[],[5]]", "$[1][0] 5-6"},
		{"$[0][0][0][0][0][0][0][0]", "[[[[[[[[1]]]]]]]]", "$[0][0][0][0][0][0][0][0] 8-9"},
		{"$[0][0][0][0][0][0][0][0][0]", "[[[[[[[[1]]]]]]]]", ""},
	})
}

func TestSelectThroughout(t *testing.T) {
	const thing = `{"a":[1,{"a":2}],"b":{"a":[3]}}`
	expectSelected(t, []selected{
		{"$..a", `{"a":[1,{"a":2}]}`, "$['a'] 5-16, $['a'][1]['a'] 13-14"},
		{"$..a", thing, "$['a'] 5-16, $['a'][1]['a'] 13-14, $['b']['a'] 26-29"},
		{"$..['a','b']", thing, "$['a'] 5-16, $['b'] 21-30, $['a'][1]['a'] 13-14, $['b']['a'] 26-29"},
		{"$..*", "[[1],[2,[3]]]", "$[0] 1-4, $[1] 5-12, $[0][0] 2-3, $[1][0] 6-7, $[1][1] 8-11, $[1][1][0] 9-10"},
		{"$..[*]", "[[1]]", "$[0] 1-4, $[0][0] 2-3"},
		{"$..[0]", "[[1],[2,[3]]]", "$[0] 1-4, $[0][0] 2-3, $[1][0] 6-7, $[1][1][0] 9-10"},
		{"$..[-1]", "[[1],[2,[3]]]", "$[1] 5-12, $[0][0] 2-3, $[1][1] 8-11, $[1][1][0] 9-10"},
		{"$..[1:]", "[[1],[2,[3]]]", "$[1] 5-12, $[1][1] 8-11"},
		{"$..[-1,0]", "[[1,2]]", "$[0] 1-6, $[0] 1-6, $[0][1] 4-5, $[0][0] 2-3"},
		{"$..[?@<3]", "[[1,9],2,[3]]", "$[1] 7-8, $[0][0] 2-3"},
		{"$..[?@.a]", `{"x":{"a":{"a":1}}}`, "$['x'] 5-18, $['x']['a'] 10-17"},
		{"$..a..a", `{"a":{"a":{"a":1}}}`, "$['a']['a'] 10-17, $['a']['a']['a'] 15-16, $['a']['a']['a'] 15-16"},
		{"$..*..*", "[[[1]]]", "$[0][0] 2-5, $[0][0][0] 3-4, $[0][0][0] 3-4"},
		{"$..*.*", "[[[1]]]", "$[0][0] 2-5, $[0][0][0] 3-4"},
		{"$.b..[0]", thing, "$['b']['a'][0] 27-28"},
		{"$[1,0]..a", `[{"a":1},[{"a":2}]]`, "$[1][0]['a'] 15-16, $[0]['a'] 6-7"},
		{"$..a[0]", thing, "$['a'][0] 6-7, $['b']['a'][0] 27-28"},
	})
}

// metBy: whether a condition is met by an element of a list.
type metBy struct {
	condition, element string
	met                bool
}

func expectMet(t *testing.T, cases []metBy) {
	t.Helper()
	for _, c := range cases {
		want := ""
		if c.met {
			want = "$[0] 1-" + strconv.Itoa(1+len(c.element))
		}
		expectSelected(t, []selected{{"$[?" + c.condition + "]", "[" + c.element + "]", want}, {"$..[?" + c.condition + "][9]", "[" + c.element + "]", ""}})
	}
}

func TestSelectByWhatIsThere(t *testing.T) {
	expectMet(t, []metBy{
		{"@", "null", true}, {"@", "false", true}, {"@", "[]", true}, {"@.a", `{"a":null}`, true}, {"@.a", `{"a":false}`, true}, {"@.a", `{"b":1}`, false}, {"@.a", `["a"]`, false}, {"@.a", `"a"`, false}, {"@.a", "{}", false},
		{"@.a.b", `{"a":{"b":0}}`, true}, {"@.a.b", `{"a":1,"a":{"b":0}}`, false}, {"@.a.b", `{"b":1}`, false},
		{"@[0]", "[null]", true}, {"@[0]", "[]", false}, {"@[1]", "[0]", false}, {"@[-1]", "[0]", true}, {"@[-2]", "[0]", false}, {"@[-1]", "[]", false}, {"@[0]", `{"a":1}`, false}, {"@[-1]", `{"a":1}`, false}, {"@[0]", `"a"`, false},
		{"@.a[1].b[-1]", `{"a":[0,{"b":[0]}]}`, true}, {"@[0][0].a", `[[{"a":0}]]`, true},
	})
}

func TestSelectByConstants(t *testing.T) {
	expectMet(t, []metBy{
		{"@==12", "12", true}, {"@==12", "13", false}, {"@==12", `"12"`, false}, {"@==-12", "-12", true}, {"@==-12", "12", false}, {"@==0", "0", true}, {"@==999", "999", true}, {"@==1", "[1]", false}, {"@[0]==1", "[1]", true},
		{"@=='a b'", `"a b"`, true}, {"@==''", `""`, true}, {"@==''", "null", false}, {"@=='12'", "12", false}, {"@=='abcdefgh'", `"abcdefgh"`, true}, {"@=='abcdefgh'", `"abcdefghi"`, false}, {"@=='abcdefgh'", `"abcdefg"`, false}, {"@=='a'", `"\\a"`, false},
		{"@==true", "true", true}, {"@==true", "false", false}, {"@==true", `"true"`, false}, {"@==false", "false", true}, {"@==false", "null", false}, {"@==null", "null", true}, {"@==null", "0", false}, {"@==null", "[]", false}, {"@==null", "{}", false}, {"@.a==null", "{}", false}, {"@.a==null", `{"a":null}`, true},
		{"@.a==1", `{"a":1,"a":2}`, true}, {"@.a==2", `{"a":1,"a":2}`, false},
		{"@!=1", "1", false}, {"@!=1", "2", true}, {"@!=1", `"1"`, true}, {"@!=1", "[1]", true}, {"@.a!=1", "{}", true}, {"@.a!=null", "{}", true}, {"@.a!=null", `{"a":null}`, false}, {"@!='a'", `"a"`, false},
	})
}

func TestSelectByOrder(t *testing.T) {
	expectMet(t, []metBy{
		{"@<1", "0", true}, {"@<1", "1", false}, {"@<1", "2", false}, {"@<-1", "-2", true}, {"@<-1", "-1", false}, {"@<0", "-1", true}, {"@<10", "9", true}, {"@<999", "999999999", false}, {"@<-999", "-999999999", true}, {"@<1", `"0"`, false}, {"@<1", "[0]", false}, {"@<1", "null", false}, {"@<1", "{}", false}, {"@.a<1", "{}", false},
		{"@<'b'", `"a"`, true}, {"@<'b'", `"b"`, false}, {"@<'b'", `"ba"`, false}, {"@<'ba'", `"b"`, true}, {"@<'a'", `"Z"`, true}, {"@<'a'", `"~"`, false}, {"@<'a'", `"\""`, true}, {"@<'a'", `"\\"`, true}, {"@<'9'", `"10"`, true}, {"@<''", `""`, false}, {"@<'a'", `""`, true}, {"@<'1'", "0", false}, {"@<'abcdefgh'", `"abcdefgh "`, false}, {"@<'abcdefgh'", `"abcdefg~"`, false}, {"@<'abcdefgh'", `"abcdefgghhhh"`, true},
		{"@<true", "false", false}, {"@<true", "true", false}, {"@<null", "null", false}, {"@<false", "null", false},
		{"@<=1", "1", true}, {"@<=1", "0", true}, {"@<=1", "2", false}, {"@<='a'", `"a"`, true}, {"@<='a'", `"A"`, true}, {"@<='a'", `"b"`, false}, {"@<=true", "true", true}, {"@<=true", "false", false}, {"@<=null", "null", true}, {"@<=null", "false", false}, {"@.a<=null", "{}", false}, {"@<=1", `"1"`, false}, {"@<=0", "[]", false},
	})
}

func TestSelectByManyParts(t *testing.T) {
	expectMet(t, []metBy{
		{"@==1||@==2", "1", true}, {"@==1||@==2", "2", true}, {"@==1||@==2", "3", false}, {"@<5&&@!=3", "4", true}, {"@<5&&@!=3", "3", false}, {"@<5&&@!=3", "6", false}, {"@<9&&@<8&&@<7", "7", false}, {"@==9||@==8||@==7", "7", true},
		{"@==1||@<9&&@==3", "1", true}, {"@==3&&@<9||@==1", "1", true}, {"@==1||@==1&&@==2", "1", true}, {"(@==1||@<9)&&@==3", "1", false}, {"@==1||(@<9&&@==3)", "1", true},
		{"!@", "1", false}, {"!@.a", "1", true}, {"!!@.a", "1", false}, {"!!@", "1", true}, {"!!!!!!@", "1", true}, {"!@==1", "2", true}, {"!@==1", "1", false}, {"!@!=1", "1", true}, {"!@<1", `"a"`, true},
		{"!@==1&&@==2", "2", true}, {"!@==1&&@==1", "1", false}, {"!(@==1&&@==2)", "1", true}, {"!(@==1||@==2)", "2", false}, {"!@==1||@==1", "1", true}, {"!(!(@==1)&&!(@==2))", "2", true}, {"((((((@==1))))))", "1", true},
		{"@.x<=2&&!@.y", `{"x":2}`, true}, {"@.x<=2&&!@.y", `{"x":1,"y":0}`, false}, {"@.x<=2&&!@.y", `{"x":3}`, false},
	})
}

func TestSelectMembersByConditions(t *testing.T) {
	expectSelected(t, []selected{
		{"$[?@]", `{"a":1,"b":[2],"a":3}`, "$['a'] 5-6, $['b'] 11-14, $['a'] 19-20"},
		{"$[?@<3]", `{"a":5,"b":2,"a":1}`, "$['b'] 11-12, $['a'] 17-18"},
		{"$[?@.x<=2&&!@.y]", `[{"x":2},{"x":1,"y":0},{"x":3}]`, "$[0] 1-8"},
		{"$[?@.x,?@.y]", `[{"x":2},{"x":1,"y":0},{"y":3}]`, "$[0] 1-8, $[1] 9-22, $[1] 9-22, $[2] 23-30"},
	})
}

func TestSelectOfWrongNumbers(t *testing.T) {
	expectWrong(t, []wrongText{
		{"1234567890", api.ErrForm, 9}, {"-1234567890", api.ErrForm, 10}, {"[1234567890]", api.ErrForm, 10}, {"01", api.ErrForm, 1}, {"00", api.ErrForm, 1}, {"-0", api.ErrForm, 1}, {"-01", api.ErrForm, 1}, {"--1", api.ErrForm, 1}, {"-", api.ErrForm, 1}, {"-a", api.ErrForm, 1}, {"- 1", api.ErrForm, 1}, {"+1", api.ErrForm, 0}, {"1.5", api.ErrForm, 1}, {"1e5", api.ErrForm, 1}, {".5", api.ErrForm, 0}, {"1-", api.ErrForm, 1}, {"0x", api.ErrForm, 1}, {"1 1", api.ErrForm, 2}, {"1,", api.ErrForm, 1}, {"[0 0]", api.ErrForm, 3},
	})
	expectSelected(t, []selected{{"$[*]", "[123456789,-123456789,0]", "$[0] 1-10, $[1] 11-21, $[2] 22-23"}})
}

func TestSelectOfWrongStrings(t *testing.T) {
	expectWrong(t, []wrongText{
		{"\"\x1f\"", api.ErrForm, 1}, {"\"\x7f\"", api.ErrForm, 1}, {"\"\n\"", api.ErrForm, 1}, {"\"\t\"", api.ErrForm, 1}, {"\"\x00\"", api.ErrForm, 1}, {"\"a\xff\"", api.ErrForm, 2}, {"\"\xc3\xa4\"", api.ErrForm, 1}, {"{\"\x1f\":1}", api.ErrForm, 2}, {"{\"\x7f\":1}", api.ErrForm, 2},
		{`"`, api.ErrForm, 1}, {`"abc`, api.ErrForm, 4}, {`"a\"`, api.ErrForm, 4}, {`"\`, api.ErrForm, 2}, {`"\n"`, api.ErrForm, 2}, {`"\/"`, api.ErrForm, 2}, {`"\'"`, api.ErrForm, 2}, {`"\u0041"`, api.ErrForm, 2}, {`""""`, api.ErrForm, 2}, {`'a'`, api.ErrForm, 0}, {`"a"b`, api.ErrForm, 3},
	})
	expectSelected(t, []selected{{"$[?@]", `{" ~":" ~"}`, "$[' ~'] 6-10"}})
}

func TestSelectOfWrongWords(t *testing.T) {
	expectWrong(t, []wrongText{
		{"tru", api.ErrForm, 3}, {"trUe", api.ErrForm, 2}, {"truee", api.ErrForm, 4}, {"true1", api.ErrForm, 4}, {"True", api.ErrForm, 0}, {"fals", api.ErrForm, 4}, {"fake", api.ErrForm, 2}, {"nul", api.ErrForm, 3}, {"nil", api.ErrForm, 1}, {"n", api.ErrForm, 1}, {"[nulll]", api.ErrForm, 5}, {"t rue", api.ErrForm, 1}, {"abc", api.ErrForm, 0}, {"truefalse", api.ErrForm, 4},
	})
}

func TestSelectOfWrongListsAndThings(t *testing.T) {
	expectWrong(t, []wrongText{
		{"[", api.ErrForm, 1}, {"[1", api.ErrForm, 2}, {"[1,", api.ErrForm, 3}, {"[1,]", api.ErrForm, 3}, {"[,1]", api.ErrForm, 1}, {"[1,,2]", api.ErrForm, 3}, {"[1 2]", api.ErrForm, 3}, {"[1}", api.ErrForm, 2}, {"]", api.ErrForm, 0}, {"[]]", api.ErrForm, 2}, {"[][]", api.ErrForm, 2}, {"[:]", api.ErrForm, 1}, {`["a":1]`, api.ErrForm, 4}, {"[]{}", api.ErrForm, 2},
		{"{", api.ErrForm, 1}, {"{]", api.ErrForm, 1}, {"}", api.ErrForm, 0}, {"{1:2}", api.ErrForm, 1}, {"{,}", api.ErrForm, 1}, {"{a:1}", api.ErrForm, 1}, {"{null:1}", api.ErrForm, 1}, {"{[]:1}", api.ErrForm, 1}, {`{"a"}`, api.ErrForm, 4}, {`{"a"`, api.ErrForm, 4}, {`{"a",1}`, api.ErrForm, 4}, {`{"a" "b"}`, api.ErrForm, 5}, {`{"a"::1}`, api.ErrForm, 5}, {`{"a":}`, api.ErrForm, 5}, {`{"a":,}`, api.ErrForm, 5}, {`{"a":1`, api.ErrForm, 6}, {`{"a":1,`, api.ErrForm, 7}, {`{"a":1,}`, api.ErrForm, 7}, {`{"a":1]`, api.ErrForm, 6}, {`{"a":1 "b":2}`, api.ErrForm, 7}, {`{"a":1,2}`, api.ErrForm, 7}, {`{"a":1,{`, api.ErrForm, 7}, {`{"a":1}}`, api.ErrForm, 7}, {`{"a":1:2}`, api.ErrForm, 6},
	})
}

func TestSelectOfWrongBlanksAndEnds(t *testing.T) {
	expectWrong(t, []wrongText{
		{"", api.ErrForm, 0}, {" ", api.ErrForm, 1}, {"\n \n", api.ErrForm, 3}, {"\t1", api.ErrForm, 0}, {"1\r\n", api.ErrForm, 1}, {"[1]\x00", api.ErrForm, 3}, {"[\t]", api.ErrForm, 1}, {"\xef\xbb\xbf1", api.ErrForm, 0}, {"1\xc2\xa0", api.ErrForm, 1}, {"[] 1", api.ErrForm, 3}, {"[ ", api.ErrForm, 2}, {"{ \"a\" ", api.ErrForm, 6}, {"// 1", api.ErrForm, 0}, {"$", api.ErrForm, 0},
	})
}

func TestSelectOfDeepTexts(t *testing.T) {
	lists, things := strings.Repeat("[", 8), strings.Repeat(`{"a":`, 8)
	expectSelected(t, []selected{
		{"$[0]", lists + "]]]]]]]]", "$[0] 1-15"},
		{"$.a", things + "1}}}}}}}}", "$['a'] 5-48"},
		{"$[-1]", "[" + lists[1:] + "]]]]]]],[[[[[[[]]]]]]]]", "$[1] 16-30"},
		{"$[1]", lists + "]]]]]]],{}]", "$[1] 16-18"},
	})
	expectWrong(t, []wrongText{
		{lists + "[", api.ErrDeep, 8}, {lists + "{", api.ErrDeep, 8}, {lists + "[]]]]]]]]]", api.ErrDeep, 8}, {things + "[", api.ErrDeep, 40}, {things + "{", api.ErrDeep, 40}, {strings.Repeat(`{"a":[`, 4) + " {", api.ErrDeep, 25},
		{lists + "1,[", api.ErrDeep, 10}, {lists + "],[[", api.ErrDeep, 11}, {lists + "]],[[[", api.ErrDeep, 13}, {lists + " \n[", api.ErrDeep, 10}, {strings.Repeat("[", 1000000), api.ErrDeep, 8},
	})
}

func TestSelectTellsTheErrorThatComesFirst(t *testing.T) {
	lists := strings.Repeat("[", 8)
	expectWrong(t, []wrongText{
		{lists + "[x", api.ErrDeep, 8}, {lists + "[", api.ErrDeep, 8}, {lists + "x[", api.ErrForm, 8}, {lists, api.ErrForm, 8}, {lists + ",[", api.ErrForm, 8}, {lists + "1[", api.ErrForm, 9}, {lists + "][", api.ErrForm, 9}, {lists + "]]]]]]]][", api.ErrForm, 16}, {"x" + lists + "[", api.ErrForm, 0}, {strings.Repeat(`{"a":`, 7) + "{{", api.ErrForm, 36}, {strings.Repeat(`{"a":`, 8) + "[", api.ErrDeep, 40}, {lists[1:] + "{[", api.ErrForm, 8}, {lists + "[" + strings.Repeat("]", 20), api.ErrDeep, 8},
	})
}

// TestSelectOfBeginnings: of the beginnings of a right text none is wrong ahead of its end.
func TestSelectOfBeginnings(t *testing.T) {
	const text = " {\"a\\\\\" : [ 1, -20,0 ,true,\"x\\\"\"] , \"\":{}, \"c\":null}\n"
	q := compiled(t, "$")
	for size := range len(text) {
		nodes, errno, at := q.Select(text[:size])
		right := errno == api.OK && at == 0 && strings.HasSuffix(text[:size], "}") && len(nodes) == 1
		begun := errno == api.ErrForm && at == size && len(nodes) == 0
		if right == begun {
			t.Errorf("P4: Select(%q) = %v, %d, %d", text[:size], nodes, errno, at)
		}
	}
}

// TestSelectAlone: what stands at a node's span is a text, of which the whole is the value.
func TestSelectAlone(t *testing.T) {
	const text = ` {"a":[1, {"b":"x\"y"} ,[],-12],"c" : {"d":[true,[null ]]}}`
	all, whole := compiled(t, "$..*"), compiled(t, "$")
	nodes, _, _ := all.Select(text)
	if len(nodes) != 11 {
		t.Fatalf("P4: %d nodes", len(nodes))
	}
	for _, n := range nodes {
		alone, errno, _ := whole.Select(text[n.From:n.To])
		if errno != api.OK || len(alone) != 1 || alone[0].From != 0 || alone[0].To != n.To-n.From {
			t.Errorf("P4: %s is %q", n.Path, text[n.From:n.To])
		}
		same, _, _ := compiled(t, n.Path).Select(text)
		if len(same) != 1 || same[0] != n {
			t.Errorf("P4: the path %s leads to %v", n.Path, same)
		}
	}
}

func TestSelectOfLongTexts(t *testing.T) {
	const many = 200000
	list := "[" + strings.Repeat("1,", many-1) + "1]"
	last := "$[" + strconv.Itoa(many-1) + "] " + strconv.Itoa(2*many-1) + "-" + strconv.Itoa(2*many)
	expectSelected(t, []selected{{"$[-1]", list, last}, {"$[999]", list, "$[999] 1999-2000"}, {"$", strings.Repeat(" ", many) + "1", "$ 200000-200001"}, {"$", `"` + strings.Repeat("x", many) + `"`, "$ 0-200002"}})
	if nodes, _, _ := compiled(t, "$..*").Select(list); len(nodes) != many || writtenNode(nodes[many-1]) != last {
		t.Errorf("P4: %d nodes", len(nodes))
	}
	expectWrong(t, []wrongText{{list[:len(list)-1], api.ErrForm, 2 * many}, {list + "x", api.ErrForm, 2*many + 1}})
}

// TestSelectAnswersNewLists: P1: what a caller writes into a list, or behind its end, is seen nowhere else.
func TestSelectAnswersNewLists(t *testing.T) {
	q := compiled(t, "$..[*,0]")
	const text = "[[1,2],[3]]"
	first, _, _ := q.Select(text)
	want := slices.Clone(first)
	second, _, _ := q.Select(text)
	spare := first[:cap(first)]
	for i := range spare {
		spare[i] = api.Node{Path: "written", From: -1, To: -1}
	}
	third, _, _ := q.Select(text)
	if len(want) == 0 || !slices.Equal(second, want) || !slices.Equal(third, want) {
		t.Errorf("P1: %v, then %v, want %v", second, third, want)
	}
}

// TestSelectKeepsNothing: P1: a query answers as if it were asked for the first time.
func TestSelectKeepsNothing(t *testing.T) {
	q := compiled(t, "$[-1]")
	for range 2 {
		for _, c := range []struct{ text, want string }{{"[1,2]", "$[1] 3-4"}, {"[1", ""}, {"[", ""}, {"[7]", "$[0] 1-2"}, {`{"a`, ""}, {"[[[[[[[[[", ""}} {
			if nodes, _, _ := q.Select(c.text); writtenNodes(nodes) != c.want {
				t.Errorf("P1: of %q %v, want %s", c.text, nodes, c.want)
			}
		}
	}
}
