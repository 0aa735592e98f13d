package trail

import (
	"slices"
	"strconv"
	"strings"
	"testing"

	"trail/api"
)

func writtenMatch(m api.Match) string {
	return writtenNode(m.Node) + " x" + strconv.Itoa(m.Times)
}

func writtenMatches(matches []api.Match) string {
	var written []string
	for _, m := range matches {
		written = append(written, writtenMatch(m))
	}
	return strings.Join(written, ", ")
}

func expectFed(t *testing.T, s *Stream, piece, want string, wantErrno api.Errno, wantAt int) {
	t.Helper()
	told, errno, at := s.Feed(piece)
	if got := writtenMatches(told); got != want || errno != wantErrno || at != wantAt {
		t.Errorf("P5: Feed(%.80q) = %q, %d, %d, want %q, %d, %d", piece, got, errno, at, want, wantErrno, wantAt)
	}
}

func expectEnded(t *testing.T, s *Stream, want string, wantErrno api.Errno, wantAt int) {
	t.Helper()
	told, errno, at := s.Close()
	if got := writtenMatches(told); got != want || errno != wantErrno || at != wantAt {
		t.Errorf("P5: Close() = %q, %d, %d, want %q, %d, %d", got, errno, at, want, wantErrno, wantAt)
	}
}

// expectClosed: from Close on nothing else is answered.
func expectClosed(t *testing.T, s *Stream) {
	t.Helper()
	for range 2 {
		for _, piece := range []string{"", " ", "1", "[", "x", "[[[[[[[[["} {
			expectFed(t, s, piece, "", api.ErrClosed, 0)
		}
		expectEnded(t, s, "", api.ErrClosed, 0)
	}
}

// expectTold: the steps are a piece, what it tells, the next piece, what that tells, and so on; the
// last one is what Close tells.
func expectTold(t *testing.T, query string, steps ...string) {
	t.Helper()
	t.Run(query, func(t *testing.T) {
		t.Helper()
		s := compiled(t, query).Stream()
		last := len(steps) - 1
		for i := 0; i < last; i += 2 {
			expectFed(t, s, steps[i], steps[i+1], api.OK, 0)
		}
		expectEnded(t, s, steps[last], api.OK, 0)
		expectClosed(t, s)
	})
}

func TestStreamTellsWhenAValueIsClosed(t *testing.T) {
	expectTold(t, "$[*]", "[12", "", ",3", "$[0] 1-3 x1", "]", "$[1] 4-5 x1", "")
	expectTold(t, "$", "[", "", "]", "$ 0-2 x1", " ", "", "")
	expectTold(t, "$", "{\"a\":1", "", "}", "$ 0-7 x1", "")
	expectTold(t, "$", `"ab`, "", `\"`, "", `"`, "$ 0-6 x1", "\n", "", "")
	expectTold(t, "$", "tru", "", "e", "$ 0-4 x1", "")
	expectTold(t, "$", " fals", "", "e", "$ 1-6 x1", "")
	expectTold(t, "$", "nul", "", "l", "$ 0-4 x1", "")
	expectTold(t, "$.a", `{"a":[1]`, "$['a'] 5-8 x1", `,"b":2`, "", `,"a":3`, "", "}", "$['a'] 19-20 x1", "")
	expectTold(t, "$.a", `{"a"`, "", `:`, "", `"`, "", `x"`, "$['a'] 5-8 x1", "}", "", "")
	expectTold(t, "$[1].a", `[{"a":1},{"b":2,"a"`, "", ":true", "$[1]['a'] 20-24 x1", "},{", "", `"a":1}]`, "", "")
	expectTold(t, "$[1:3]", "[1,2,", "$[1] 3-4 x1", "3,", "$[2] 5-6 x1", "4]", "", "")
	expectTold(t, "$[:]", "[1,", "$[0] 1-2 x1", "[2]", "$[1] 3-6 x1", "]", "", "")
	expectTold(t, "$['']", `{"":[{}]`, "$[''] 4-8 x1", `,"a":0}`, "", "")
	expectTold(t, "$.a", "[1,2]", "", "")
	expectTold(t, "$[0]", `{"a":1}`, "", "")
	expectTold(t, "$.*", "7", "", " ", "", "")
}

func TestStreamTellsOfNumbers(t *testing.T) {
	expectTold(t, "$", "12", "", "", "", "$ 0-2 x1")
	expectTold(t, "$", "12", "", " ", "$ 0-2 x1", "")
	expectTold(t, "$", "0", "", "\n", "$ 0-1 x1", "")
	expectTold(t, "$", "-", "", "1", "", "$ 0-2 x1")
	expectTold(t, "$", " 123456789", "", "$ 1-10 x1")
	expectTold(t, "$", "-12345678", "", "9", "", " ", "$ 0-10 x1", "")
	expectTold(t, "$..*", "[1", "", "2", "", "3", "", " ", "$[0] 1-4 x1", "]", "", "")
	expectTold(t, "$..*", `{"a":1`, "", "\n", "$['a'] 5-6 x1", "}", "", "")
	expectTold(t, "$..*", `{"a":1`, "", "}", "$['a'] 5-6 x1", "")
	expectTold(t, "$..*", "[[1", "", "]", "$[0][0] 2-3 x1, $[0] 1-4 x1", "]", "", "")
	expectTold(t, "$[?@<2]", "1", "", "")
	expectTold(t, "$[*][?@]", "[1", "", ",2", "", "]", "", "")
}

func TestStreamTellsHowOften(t *testing.T) {
	expectTold(t, "$[0,0,:]", "[1,2]", "$[0] 1-2 x3, $[1] 3-4 x1", "")
	expectTold(t, "$['a',*,'a']", `{"a":1,"b":2,"a":3}`, "$['a'] 5-6 x3, $['b'] 11-12 x1, $['a'] 17-18 x3", "")
	expectTold(t, "$[0,0][1,*,0]", "[[1,2],[3]]", "$[0][0] 2-3 x4, $[0][1] 4-5 x4", "")
	expectTold(t, "$..a..a", `{"a":{"a":{"a":1 `, "$['a']['a']['a'] 15-16 x2", "}", "$['a']['a'] 10-18 x1", "}}", "", "")
	expectTold(t, "$..*..*", "[[[1", "", "]", "$[0][0][0] 3-4 x2, $[0][0] 2-5 x1", "]]", "", "")
	expectTold(t, "$..[*,0]..[0]", "[[[7]]]", "$[0][0][0] 3-4 x4, $[0][0] 2-5 x2", "")
	expectTold(t, "$..[0,0].*", "[[1,2],[3]]", "$[0][0] 2-3 x2, $[0][1] 4-5 x2", "")
	expectTold(t, "$[0,0,-1]", "[7", "", "]", "$[0] 1-2 x3", "")
	expectTold(t, "$[*,0][-1]", "[[7]", "$[0][0] 2-3 x2", ",[8]", "$[1][0] 6-7 x1", "]", "", "")
	expectTold(t, "$..*..[-1]", "[[[7]", "", "]", "$[0][0][0] 3-4 x2, $[0][0] 2-5 x1", "]", "", "")
	expectTold(t, "$[?@,?@<5,0][*,*]", "[[1],[2]]", "$[0][0] 2-3 x4, $[1][0] 6-7 x2", "")
	expectTold(t, "$..*..*..*..*..*..*", "[[[[[[[[1]]]]]]]]", "$[0][0][0][0][0][0][0][0] 8-9 x21, $[0][0][0][0][0][0][0] 7-10 x6, $[0][0][0][0][0][0] 6-11 x1", "")
}

func TestStreamTellsOfLateSelectorsWhenTheHolderIsClosed(t *testing.T) {
	expectTold(t, "$[*][-1]", "[[1,2],[3", "$[0][1] 4-5 x1", "]]", "$[1][0] 8-9 x1", "")
	expectTold(t, "$[-1]", "[1,2", "", " ", "", "]", "$[1] 3-4 x1", " ", "", "")
	expectTold(t, "$[-2]", "[1,2,3", "", "]", "$[1] 3-4 x1", "")
	expectTold(t, "$[-3]", "[1,2]", "", "")
	expectTold(t, "$[-1]", `{"a":1}`, "", "")
	expectTold(t, "$[-1]", "7", "", "")
	expectTold(t, "$[?@.a]", `[{"a":1},{"b":1},{"a":2}`, "", "]", "$[0] 1-8 x1, $[2] 17-24 x1", "")
	expectTold(t, "$[?@.a]", `{"x":{"a":1},"y":{}`, "", "}", "$['x'] 5-12 x1", "")
	expectTold(t, "$.a[?@<2]", `{"b":[1],"a":[1,3`, "", "]", "$['a'][0] 14-15 x1", `,"a":[0,1]`, "$['a'][0] 24-25 x1, $['a'][1] 26-27 x1", `,"a":1}`, "", "")
	expectTold(t, "$[?@].a", `[{"a":1}`, "", "]", "$[0]['a'] 6-7 x1", "")
	expectTold(t, "$[0][-1][0]", "[[[1],[2]", "", "]", "$[0][1][0] 7-8 x1", ",[[3]]", "", "]", "", "")
	expectTold(t, "$[1:][?@]", "[[1],[2]", "$[1][0] 6-7 x1", ",[3", "", "]", "$[2][0] 10-11 x1", "]", "", "")
	expectTold(t, "$[*,-1]", "[1,2", "", "]", "$[0] 1-2 x1, $[1] 3-4 x2", "")
	expectTold(t, "$.a.b[-1,0].c", `{"a":{"b":[{"c":1}]`, "$['a']['b'][0]['c'] 16-17 x2", "}}", "", "")
}

func TestStreamWithLateSelectorsThroughout(t *testing.T) {
	expectTold(t, "$..[-1]", "[[1],[2]", "", "]", "$[0][0] 2-3 x1, $[1][0] 6-7 x1, $[1] 5-8 x1", "")
	expectTold(t, "$..a[-1]", `{"a":{"a":[1]`, "", "}", "$['a']['a'][0] 11-12 x1", "}", "", "")
	expectTold(t, "$..a[-1]", `{"a":[{"a":[1]}`, "", "]", "$['a'][0]['a'][0] 12-13 x1, $['a'][0] 6-15 x1", "}", "", "")
	expectTold(t, "$..a[-1]", `{"b":{"a":[1]`, "$['b']['a'][0] 11-12 x1", `},"a":[2]`, "$['a'][0] 20-21 x1", "}", "", "")
	expectTold(t, "$.a..[?@==1,-1]", `{"b":[1],"a":[1,[1`, "", "]", "", "]", "$['a'][0] 14-15 x1, $['a'][1][0] 17-18 x2, $['a'][1] 16-19 x1", `,"a":1,"a":[]`, "", `,"a":[7]`, "$['a'][0] 39-40 x1", "}", "", "")
	expectTold(t, "$..*[?@]", "[[1]", "$[0][0] 2-3 x1", ",2,[[3]", "", "]", "$[2][0][0] 9-10 x1, $[2][0] 8-11 x1", "]", "", "")
	expectTold(t, "$[*]..[-1]..*", "[[[1,[2]]]", "$[0][0][0] 3-4 x1, $[0][0][1][0] 6-7 x2, $[0][0][1] 5-8 x1", ",[]", "", "]", "", "")
	expectTold(t, "$..[?@.a]", `{"x":{"a":{"a":1}}`, "", "}", "$['x']['a'] 10-17 x1, $['x'] 5-18 x1", "")
	expectTold(t, "$..a.b[-1]", `{"a":{"a":{"b":[1]`, "$['a']['a']['b'][0] 16-17 x1", `},"b":[2]`, "$['a']['b'][0] 25-26 x1", "}}", "", "")
}

func TestStreamOrderOfWhatIsToldAtOnce(t *testing.T) {
	const text = `[[1,{"a":2}],[3]]`
	const all = "$[0][0] 2-3 x1, $[0][1]['a'] 9-10 x1, $[0][1] 4-11 x1, $[0] 1-12 x1, $[1][0] 14-15 x1, $[1] 13-16 x1"
	expectTold(t, "$..*", text, all, "")
	expectTold(t, "$..[?@]", text, all, "")
	expectTold(t, "$..[?@]", text[:len(text)-1], "", "]", all, "")
	expectTold(t, "$[*,1,0]", "[5,6]", "$[0] 1-2 x2, $[1] 3-4 x2", "")
	expectTold(t, "$['b','a']", `{"a":1,"b":2}`, "$['a'] 5-6 x1, $['b'] 11-12 x1", "")
	expectTold(t, "$[-1,-2]", "[5,6]", "$[0] 1-2 x1, $[1] 3-4 x1", "")
	expectTold(t, "$..[-1,0]", "[[1,2]]", "$[0][0] 2-3 x1, $[0][1] 4-5 x1, $[0] 1-6 x2", "")
}

func TestStreamOfEmptyPieces(t *testing.T) {
	expectTold(t, "$..*", "", "", "[", "", "", "", "1", "", "", "", ",", "$[0] 1-2 x1", "", "", "2", "", "", "", "]", "$[1] 3-4 x1", "", "", "")
	expectTold(t, "$[-1]", "", "", "[", "", "", "", "1]", "$[0] 1-2 x1", "", "", "")
	s := compiled(t, "$").Stream()
	expectFed(t, s, "", "", api.OK, 0)
	expectEnded(t, s, "", api.ErrForm, 0)
	expectClosed(t, s)
}

// wrongAt: a text that is wrong, and what is told ahead of that.
type wrongAt struct {
	query, text, told string
	errno             api.Errno
	at                int
}

// TestStreamOfWrongTexts: in pieces of each size; the piece that is wrong tells of what stands ahead.
func TestStreamOfWrongTexts(t *testing.T) {
	for _, c := range []wrongAt{
		{"$..*", "[1,2,]", "$[0] 1-2 x1, $[1] 3-4 x1", api.ErrForm, 5}, {"$..*", "[1x", "", api.ErrForm, 2}, {"$..*", "[1 x", "$[0] 1-2 x1", api.ErrForm, 3}, {"$..*", `["a"x`, "$[0] 1-4 x1", api.ErrForm, 4}, {"$..*", "[1}", "", api.ErrForm, 2}, {"$..*", "[1:", "", api.ErrForm, 2}, {"$..*", `{"a":1]`, "", api.ErrForm, 6}, {"$..*", `{"a":1 ]`, "$['a'] 5-6 x1", api.ErrForm, 7}, {"$..*", `[1"`, "", api.ErrForm, 2}, {"$..*", "[1\t", "", api.ErrForm, 2}, {"$..*", "[1[", "", api.ErrForm, 2},
		{"$", "1]", "", api.ErrForm, 1}, {"$", "1 ]", "$ 0-1 x1", api.ErrForm, 2}, {"$", "01", "", api.ErrForm, 1}, {"$", "1,", "", api.ErrForm, 1}, {"$", "-0", "", api.ErrForm, 1}, {"$", "1.5", "", api.ErrForm, 1}, {"$", "1234567890", "", api.ErrForm, 9}, {"$", "[] []", "$ 0-2 x1", api.ErrForm, 3}, {"$", "{}x", "$ 0-2 x1", api.ErrForm, 2}, {"$", "true1", "$ 0-4 x1", api.ErrForm, 4}, {"$", `"a""`, "$ 0-3 x1", api.ErrForm, 3}, {"$", "x", "", api.ErrForm, 0}, {"$", "\t", "", api.ErrForm, 0}, {"$", "\xff", "", api.ErrForm, 0}, {"$", "tru3", "", api.ErrForm, 3}, {"$", "\"\n", "", api.ErrForm, 1}, {"$", `"\n`, "", api.ErrForm, 2},
		{"$..*", "[[[[[[[[[", "", api.ErrDeep, 8}, {"$..*", "[[[[[[[[{", "", api.ErrDeep, 8}, {"$..*", "[0,[[[[[[[[", "$[0] 1-2 x1", api.ErrDeep, 10}, {"$[0]", "[[[[[[[[1],[[[[[[[[", "", api.ErrDeep, 12}, {"$[0]", "[[[[[[[[]]]]]]],[[[[[[[[", "$[0] 1-15 x1", api.ErrDeep, 23}, {"$..*", "[[[[[[[[1[", "", api.ErrForm, 9}, {"$..*", "[[[[[[[[ [x", "", api.ErrDeep, 9}, {"$..*", "[[[[[[[[x[", "", api.ErrForm, 8}, {"$..*", "[12345678901", "", api.ErrForm, 10},
		{"$[-1]", "[1,2}", "", api.ErrForm, 4}, {"$[-1]", "[1,2]]", "$[1] 3-4 x1", api.ErrForm, 5}, {"$[*][-1]", "[[1],[2],[3 x", "$[0][0] 2-3 x1, $[1][0] 6-7 x1", api.ErrForm, 12}, {"$[*][?@]", "[[1],[2],[[[[[[[[3", "$[0][0] 2-3 x1, $[1][0] 6-7 x1", api.ErrDeep, 16}, {"$..[-1]", "[[1],x", "", api.ErrForm, 5}, {"$[?@]", "{]", "", api.ErrForm, 1}, {"$[?@]", `{"a":1,}`, "", api.ErrForm, 7},
	} {
		for size := 1; size <= len(c.text); size++ {
			expectWrongAt(t, c, size)
		}
	}
}

func expectWrongAt(t *testing.T, c wrongAt, size int) {
	t.Helper()
	s := compiled(t, c.query).Stream()
	var all []api.Match
	for piece := range slices.Chunk([]byte(c.text+"]]"), size) {
		told, errno, at := s.Feed(string(piece))
		all = append(all, told...)
		if errno == api.OK && at == 0 {
			continue
		}
		if errno != c.errno || at != c.at || writtenMatches(all) != c.told {
			t.Errorf("P5: %s of %q by %d: %q, %d, %d, want %q, %d, %d", c.query, c.text, size, writtenMatches(all), errno, at, c.told, c.errno, c.at)
		}
		break
	}
	for _, piece := range []string{"", " ", "]", "[[[[[[[[[[", "x", "1"} {
		expectFed(t, s, piece, "", c.errno, c.at)
	}
	expectEnded(t, s, "", c.errno, c.at)
	expectClosed(t, s)
}

// TestStreamWrongWhereTheTextEnds: Close tells nothing then, not even of a number at the end.
func TestStreamWrongWhereTheTextEnds(t *testing.T) {
	for _, c := range []struct{ query, text, told string }{
		{"$", "", ""}, {"$", " ", ""}, {"$", "\n \n", ""}, {"$", "-", ""}, {"$", `"a`, ""}, {"$", `"\`, ""}, {"$", "tr", ""}, {"$", "[", ""}, {"$", "{", ""}, {"$..*", "[1", ""}, {"$..*", "[1 ", "$[0] 1-2 x1"}, {"$..*", "[1,", "$[0] 1-2 x1"}, {"$..*", "[1,2", "$[0] 1-2 x1"}, {"$..*", `{"a`, ""}, {"$..*", `{"a"`, ""}, {"$..*", `{"a":`, ""}, {"$..*", `{"a":1`, ""}, {"$..*", `{"a":1,`, "$['a'] 5-6 x1"}, {"$..*", "[[]", "$[0] 1-3 x1"}, {"$", "[[[[[[[[", ""},
		{"$[-1]", "[1,2", ""}, {"$[*][-1]", "[[1],[2", "$[0][0] 2-3 x1"}, {"$[?@]", "[[1],[2]", ""},
	} {
		s := compiled(t, c.query).Stream()
		expectFed(t, s, c.text, c.told, api.OK, 0)
		expectEnded(t, s, "", api.ErrForm, len(c.text))
		expectClosed(t, s)
	}
}

func TestStreamClosedAtOnce(t *testing.T) {
	for _, query := range []string{"$", "$..*", "$[-1]"} {
		s := compiled(t, query).Stream()
		expectEnded(t, s, "", api.ErrForm, 0)
		expectClosed(t, s)
	}
}
