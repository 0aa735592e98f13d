package trail

import (
	"math/rand"
	"slices"
	"strings"
	"testing"

	"trail/api"
)

// followed: a query to be followed. Its head is that of one with a late selector, else empty.
type followed struct{ query, head string }

func someFollowed() []followed {
	return []followed{
		{"$", ""}, {"$.a", ""}, {"$.*", ""}, {"$..*", ""}, {"$..a", ""}, {"$[0]", ""}, {"$[1:]", ""}, {"$[*,0,'a']", ""}, {"$..a..*", ""}, {"$..*..*", ""}, {"$.a.*", ""}, {"$..[0,0].*", ""}, {"$[9]", ""},
		{"$[-1]", "$"}, {"$[?@]", "$"}, {"$..[-1]", "$"}, {"$..[?@<3]", "$"}, {"$[?@.a].a", "$"}, {"$[-1]..*", "$"}, {"$.*[-1]", "$.*"}, {"$.a[?@]", "$.a"}, {"$..a[-1]", "$..a"}, {"$..*[-1]", "$..*"}, {"$..*[?@.a||@[0]]", "$..*"}, {"$..*..[-2,0]", "$..*"}, {"$[0,0]..[-1,?@]", "$[0,0]"}, {"$..*.*[-1].*", "$..*.*"}, {"$..a..[?!@.a][-1]", "$..a"}, {"$.a[-1][-1]", "$.a"}, {"$[9][-1]", "$[9]"},
	}
}

func someTexts() []string {
	return []string{
		"1", " -12\n", `"a\"b"`, "true ", "[]", "{}", "[1]", "[1,2,3]", "[[1,2],[3,[4,5]],6]", `{"a":1,"b":{"a":[1,2]},"a":[{"a":0}]}`, ` { "a" : [ 1 , { "a" : -2 } ] , "" : null } `, "[[[[[[[[1,2]]]]]]],[7]]", `{"a":{"a":{"a":{"a":[1,[2]]}}}}`, `[{"a":[{"a":[]},{"b":[3,4]}]},[[],[5]],"x"]`, `{"'\\":[12,345],"a":"\\x"}`,
	}
}

// due: what is to be told at the byte at this place, or, if the text ends there, by Close.
type due struct {
	at    int
	match api.Match
}

// closing is the place of the byte at which the value at a span is closed.
func closing(text string, n api.Node) int {
	if strings.IndexByte("-0123456789", text[n.From]) >= 0 {
		return n.To
	}
	return n.To - 1
}

// holderOf is the outermost of the head's nodes within which a node is, or which it is.
func holderOf(head []api.Node, n api.Node) api.Node {
	holder := n
	for _, h := range head {
		if h.From <= holder.From && h.To >= holder.To {
			holder = h
		}
	}
	return holder
}

// wantedDues works out, by the document's words, what a stream has to tell of a right text and when,
// from what Select finds in it.
func wantedDues(t *testing.T, f followed, text string) []due {
	t.Helper()
	nodes, errno, at := compiled(t, f.query).Select(text)
	if errno != api.OK {
		t.Fatalf("P4: %s of %s: %d at %d", f.query, text, errno, at)
	}
	var head []api.Node
	if f.head != "" {
		head, _, _ = compiled(t, f.head).Select(text)
	}
	var dues []due
	for _, n := range nodes {
		same := func(d due) bool { return d.match.From == n.From && d.match.To == n.To }
		if i := slices.IndexFunc(dues, same); i >= 0 {
			dues[i].match.Times++
			continue
		}
		dues = append(dues, due{at: closing(text, holderOf(head, n)), match: api.Match{Node: n, Times: 1}})
	}
	slices.SortFunc(dues, func(a, b due) int {
		if a.at != b.at {
			return a.at - b.at
		}
		return a.match.To - b.match.To
	})
	return dues
}

func matchesOf(dues []due) []api.Match {
	var matches []api.Match
	for _, d := range dues {
		matches = append(matches, d.match)
	}
	return matches
}

// ahead are those dues that the bytes ahead of a place bring.
func ahead(dues []due, place int) []api.Match {
	var before []due
	for _, d := range dues {
		if d.at < place {
			before = append(before, d)
		}
	}
	return matchesOf(before)
}

// fed feeds pieces to a new stream; the answer is all that it tells, and the error of the last piece.
func fed(q *Query, pieces ...string) (s *Stream, all []api.Match, errno api.Errno, at int) {
	s = q.Stream()
	for _, piece := range pieces {
		var told []api.Match
		told, errno, at = s.Feed(piece)
		all = append(all, told...)
	}
	return s, all, errno, at
}

// streamed is all that a stream tells of a right text that comes in these pieces.
func streamed(t *testing.T, q *Query, pieces ...string) []api.Match {
	t.Helper()
	s, all, errno, at := fed(q, pieces...)
	told, errnoEnd, atEnd := s.Close()
	if errno != api.OK || at != 0 || errnoEnd != api.OK || atEnd != 0 {
		t.Errorf("P5: %s of %q: %d at %d, Close %d at %d", q.Text(), pieces, errno, at, errnoEnd, atEnd)
	}
	return append(all, told...)
}

// expectDues feeds byte by byte.
func expectDues(t *testing.T, q *Query, text string, want []due) {
	t.Helper()
	s := q.Stream()
	var got []due
	for at := range len(text) {
		told, errno, wrong := s.Feed(text[at : at+1])
		if errno != api.OK || wrong != 0 {
			t.Fatalf("P5: %s of %q, byte %d: %d at %d", q.Text(), text, at, errno, wrong)
		}
		for _, m := range told {
			got = append(got, due{at, m})
		}
	}
	told, errno, wrong := s.Close()
	for _, m := range told {
		got = append(got, due{len(text), m})
	}
	if errno != api.OK || wrong != 0 || !slices.Equal(got, want) {
		t.Fatalf("P5: %s of %q: %v, %d at %d, want %v", q.Text(), text, got, errno, wrong, want)
	}
}

func TestStreamByteByByteAgainstSelect(t *testing.T) {
	for _, f := range someFollowed() {
		for _, text := range someTexts() {
			expectDues(t, compiled(t, f.query), text, wantedDues(t, f, text))
		}
	}
}

// TestStreamHowATextIsCutMeansNothing: P6.
func TestStreamHowATextIsCutMeansNothing(t *testing.T) {
	for _, f := range someFollowed() {
		q := compiled(t, f.query)
		for _, text := range someTexts() {
			want := matchesOf(wantedDues(t, f, text))
			for first := range len(text) + 1 {
				for second := first; second <= len(text); second++ {
					pieces := []string{text[:first], text[first:second], text[second:]}
					if got := streamed(t, q, pieces...); !slices.Equal(got, want) {
						t.Fatalf("P6: %s of %q: %v, want %v", f.query, pieces, got, want)
					}
				}
			}
		}
	}
}

// TestStreamToldAheadOfAFault: what is told hangs on what has come alone (P7), be the next byte wrong
// or the text at its end.
func TestStreamToldAheadOfAFault(t *testing.T) {
	for _, f := range someFollowed() {
		q := compiled(t, f.query)
		for _, text := range someTexts() {
			dues := wantedDues(t, f, text)
			for place := range len(text) + 1 {
				want := ahead(dues, place)
				_, told, errno, at := fed(q, text[:place]+"\x00"+text[place:])
				if !slices.Equal(told, want) || errno != api.ErrForm || at != place {
					t.Fatalf("P5: %s of %q, wrong at %d: %v, %d, %d, want %v", f.query, text, place, told, errno, at, want)
				}
				s, told, errno, at := fed(q, text[:place])
				if !slices.Equal(told, want) || errno != api.OK || at != 0 {
					t.Fatalf("P7: %s of %q: %v, %d, %d, want %v", f.query, text[:place], told, errno, at, want)
				}
				told, errno, at = s.Close()
				if errno != api.OK && (len(told) != 0 || errno != api.ErrForm || at != place) {
					t.Fatalf("P5: %s: Close behind %q: %v, %d, %d", f.query, text[:place], told, errno, at)
				}
			}
		}
	}
}

// TestStreamTellsTheSameOfEveryTextThatBeginsSo: P7.
func TestStreamTellsTheSameOfEveryTextThatBeginsSo(t *testing.T) {
	const begin = `[{"a":[1,[2,3]]},[4,5],{"a":[6`
	for _, f := range someFollowed() {
		q := compiled(t, f.query)
		_, first, _, _ := fed(q, begin)
		for _, rest := range []string{"]}]", "7]}]", ",8]}]", " ,[8],{\"a\":9}],\"a\":[0]},[1]]", "]},7,8,9]", "\x00", "[", ",[[[[[[[[", ""} {
			s, all, _, _ := fed(q, begin+rest)
			told, _, _ := s.Close()
			all = append(all, told...)
			if len(all) < len(first) || !slices.Equal(all[:len(first)], first) {
				t.Errorf("P7: %s: of %s %v, with %s behind it %v", f.query, begin, first, rest, all)
			}
		}
	}
}

// chance makes texts and queries; the same ones in each run.
type chance struct{ *rand.Rand }

func (c chance) one(of ...string) string { return of[c.Intn(len(of))] }

func (c chance) blanks() string { return c.one("", "", "", " ", "\n", "  ") }

func (c chance) value(deep int) string {
	kind := c.Intn(9)
	if deep == api.MaxDeep || kind < 4 {
		return c.one("0", "1", "-12", "345", `"a"`, `""`, `"\"]\\"`, "true", "false", "null")
	}
	var parts []string
	for range c.Intn(4) {
		part := c.blanks() + c.value(deep+1) + c.blanks()
		if kind > 6 {
			part = c.blanks() + c.one(`"a"`, `"b"`, `"a'\\"`, `""`) + c.blanks() + ":" + part
		}
		parts = append(parts, part)
	}
	if kind > 6 {
		return "{" + strings.Join(parts, ",") + "}"
	}
	return "[" + c.blanks() + strings.Join(parts, ",") + "]"
}

func (c chance) query() followed {
	query, head := "$", ""
	for range c.Intn(5) {
		segment := c.one(".a", ".*", "..a", "..*", "[0]", "[*,0]", "['b','a']", "..[1:]", "..[0,*]", "[:2]", "[-1]", "[-2,*]", "..[-1]", "[?@.a]", "..[?@<1]", "[?@[0]||!@.b]", "..[?@!='a',0]")
		if head == "" && strings.ContainsAny(segment, "-?") {
			head = query
		}
		query += segment
	}
	return followed{query, head}
}

func (c chance) cuts(text string) []string {
	var pieces []string
	for text != "" {
		size := min(len(text), c.Intn(9))
		pieces = append(pieces, text[:size])
		text = text[size:]
	}
	return pieces
}

func TestStreamByChance(t *testing.T) {
	c := chance{rand.New(rand.NewSource(1))}
	for range 4000 {
		f := c.query()
		q := compiled(t, f.query)
		text := c.blanks() + c.value(0) + c.blanks()
		want := wantedDues(t, f, text)
		expectDues(t, q, text, want)
		pieces := c.cuts(text)
		if got := streamed(t, q, pieces...); !slices.Equal(got, matchesOf(want)) {
			t.Fatalf("P6: %s of %q: %v, want %v", f.query, pieces, got, want)
		}
	}
}
