package trail

import (
	"strings"
	"testing"

	"trail/api"
)

// refused: a query of which nothing comes but an error and a place.
type refused struct {
	query string
	errno api.Errno
	at    int
}

func expectRefused(t *testing.T, cases []refused) {
	t.Helper()
	for _, c := range cases {
		if q, errno, at := Compile(c.query); q != nil || errno != c.errno || at != c.at {
			t.Errorf("P2: Compile(%.130q) = %v, %d, %d, want nil, %d, %d", c.query, q, errno, at, c.errno, c.at)
		}
	}
}

func expectText(t *testing.T, query, want string) {
	t.Helper()
	q, errno, at := Compile(query)
	if q == nil || errno != api.OK || at != 0 {
		t.Errorf("P2: Compile(%q) = %v, %d, %d, want a query, OK, 0", query, q, errno, at)
		return
	}
	for range 2 {
		if text := q.Text(); text != want {
			t.Errorf("P3: Text of %q = %q, want %q", query, text, want)
		}
	}
}

func TestTextWritesShortSegmentsInBrackets(t *testing.T) {
	for _, c := range []struct{ query, want string }{
		{"$.a", "$['a']"},
		{"$.*", "$[*]"},
		{"$..a", "$..['a']"},
		{"$..*", "$..[*]"},
		{"$.a[0]", "$['a'][0]"},
		{"$[0].a", "$[0]['a']"},
		{"$.a.b..c.*..*", "$['a']['b']..['c'][*]..[*]"},
		{"$.abcdefgh..zyxwvuts", "$['abcdefgh']..['zyxwvuts']"},
		{"$[?@.a==1].b..c", "$[?@.a==1]['b']..['c']"},
		{"$.a[?@.b[0].c].d", "$['a'][?@.b[0].c]['d']"},
	} {
		expectText(t, c.query, c.want)
	}
}

func TestTextLeavesAllElse(t *testing.T) {
	for _, query := range []string{
		"$", "$[*]", "$..[*]", "$['a']", "$..['a']", "$['']", "$['a 0 9z']", "$['        ']", "$[0]", "$[999]", "$[-1]", "$[-999]",
		"$[:]", "$[0:]", "$[:0]", "$[12:345]", "$[0,-1,*,'x',:,?@]", "$[0][1]..[2]",
		"$[?@]", "$[?@.a.b]", "$[?@[0][-1]]", "$[?@==0]", "$[?@!=-1]", "$[?@<'']", "$[?@<='a 1']",
		"$[?@==true||@==false||@==null]", "$[?!@.a&&(@.b||!(@.c))]", "$..[?@.a,?@.b]",
	} {
		expectText(t, query, query)
	}
}

func TestTextIsLongerThanQueriesMayBe(t *testing.T) {
	query := "$" + strings.Repeat("..abcdefgh", 10)
	expectText(t, query, "$"+strings.Repeat("..['abcdefgh']", 10))
}

// TestTextOfText: what Text writes is a query that is written so already.
func TestTextOfText(t *testing.T) {
	for _, query := range []string{"$.a..b.*..*[0]", "$[?@.a<1].b", "$..['a b',-1]"} {
		q, _, _ := Compile(query)
		expectText(t, q.Text(), q.Text())
	}
}

func TestCompileRefusesWrongSegments(t *testing.T) {
	expectRefused(t, []refused{
		{"", api.ErrForm, 0}, {" $", api.ErrForm, 0}, {"a", api.ErrForm, 0}, {"@", api.ErrForm, 0}, {"$$", api.ErrForm, 1}, {"$a", api.ErrForm, 1}, {"$*", api.ErrForm, 1}, {"$ ", api.ErrForm, 1}, {"$]", api.ErrForm, 1},
		{"$.", api.ErrForm, 2}, {"$..", api.ErrForm, 3}, {"$...", api.ErrForm, 3}, {"$.[*]", api.ErrForm, 2}, {"$.'a'", api.ErrForm, 2}, {"$.0", api.ErrForm, 2}, {"$.A", api.ErrForm, 2}, {"$.aB", api.ErrForm, 3}, {"$.a b", api.ErrForm, 3},
		{"$.**", api.ErrForm, 3}, {"$.a*", api.ErrForm, 3}, {"$..a.", api.ErrForm, 5}, {"$\x00", api.ErrForm, 1}, {"$.\xff", api.ErrForm, 2}, {"$.é", api.ErrForm, 2}, {"$\n", api.ErrForm, 1},
	})
}

func TestCompileRefusesWrongSelectors(t *testing.T) {
	expectRefused(t, []refused{
		{"$[", api.ErrForm, 2}, {"$[]", api.ErrForm, 2}, {"$[,0]", api.ErrForm, 2}, {"$[0,]", api.ErrForm, 4}, {"$[0,,0]", api.ErrForm, 4}, {"$[0 ]", api.ErrForm, 3}, {"$[ 0]", api.ErrForm, 2}, {"$[0", api.ErrForm, 3}, {"$[*", api.ErrForm, 3}, {"$[**]", api.ErrForm, 3}, {"$[a]", api.ErrForm, 2}, {"$[\"a\"]", api.ErrForm, 2},
		{"$[00]", api.ErrForm, 3}, {"$[01]", api.ErrForm, 3}, {"$[-]", api.ErrForm, 3}, {"$[-0]", api.ErrForm, 3}, {"$[--1]", api.ErrForm, 3}, {"$[-1:]", api.ErrForm, 4}, {"$[1:-1]", api.ErrForm, 4}, {"$[:-1]", api.ErrForm, 3}, {"$[1:02]", api.ErrForm, 5}, {"$[01:2]", api.ErrForm, 3}, {"$[::]", api.ErrForm, 3}, {"$[1:2:3]", api.ErrForm, 5}, {"$[+1]", api.ErrForm, 2},
		{"$['a]", api.ErrForm, 4}, {"$['a", api.ErrForm, 4}, {"$['A']", api.ErrForm, 3}, {"$['a''b']", api.ErrForm, 5}, {"$['\\'']", api.ErrForm, 3}, {"$['a'", api.ErrForm, 5},
	})
}

func TestCompileRefusesWrongConditions(t *testing.T) {
	expectRefused(t, []refused{
		{"$[?]", api.ErrForm, 3}, {"$[?a]", api.ErrForm, 3}, {"$[?1==@]", api.ErrForm, 3}, {"$[?$]", api.ErrForm, 3}, {"$[?@", api.ErrForm, 4}, {"$[?@ ]", api.ErrForm, 4}, {"$[? @]", api.ErrForm, 3}, {"$[?@@]", api.ErrForm, 4}, {"$[?@(@)]", api.ErrForm, 4},
		{"$[?@.]", api.ErrForm, 5}, {"$[?@.*]", api.ErrForm, 5}, {"$[?@..a]", api.ErrForm, 5}, {"$[?@[]]", api.ErrForm, 5}, {"$[?@[*]]", api.ErrForm, 5}, {"$[?@['a']]", api.ErrForm, 5}, {"$[?@[0:1]]", api.ErrForm, 6}, {"$[?@[0,1]]", api.ErrForm, 6}, {"$[?@[-0]]", api.ErrForm, 6}, {"$[?@[01]]", api.ErrForm, 6}, {"$[?@[0]", api.ErrForm, 7},
		{"$[?@=1]", api.ErrForm, 5}, {"$[?@===1]", api.ErrForm, 6}, {"$[?@!1]", api.ErrForm, 5}, {"$[?@!@]", api.ErrForm, 5}, {"$[?@<]", api.ErrForm, 5}, {"$[?@<==1]", api.ErrForm, 6}, {"$[?@<<1]", api.ErrForm, 5}, {"$[?@>1]", api.ErrForm, 4}, {"$[?@=<1]", api.ErrForm, 5},
		{"$[?@==]", api.ErrForm, 6}, {"$[?@==@]", api.ErrForm, 6}, {"$[?@==-]", api.ErrForm, 7}, {"$[?@==-0]", api.ErrForm, 7}, {"$[?@==01]", api.ErrForm, 7}, {"$[?@==1.5]", api.ErrForm, 7}, {"$[?@==1==1]", api.ErrForm, 7}, {"$[?@=='a]", api.ErrForm, 8}, {"$[?@==\"a\"]", api.ErrForm, 6}, {"$[?@==[0]]", api.ErrForm, 6},
		{"$[?@.a==tru]", api.ErrForm, 11}, {"$[?@==truth]", api.ErrForm, 9}, {"$[?@==truee]", api.ErrForm, 10}, {"$[?@==nil]", api.ErrForm, 7}, {"$[?@==a]", api.ErrForm, 6}, {"$[?@==fals", api.ErrForm, 10},
		{"$[?@&@]", api.ErrForm, 5}, {"$[?@&&]", api.ErrForm, 6}, {"$[?@&&&@]", api.ErrForm, 6}, {"$[?@|]", api.ErrForm, 5}, {"$[?@||]", api.ErrForm, 6}, {"$[?@&|@]", api.ErrForm, 5}, {"$[?&&@]", api.ErrForm, 3},
		{"$[?!]", api.ErrForm, 4}, {"$[?()]", api.ErrForm, 4}, {"$[?(@]", api.ErrForm, 5}, {"$[?(@,@)]", api.ErrForm, 5}, {"$[?@)]", api.ErrForm, 4}, {"$[?(@))]", api.ErrForm, 6}, {"$[?!(@]", api.ErrForm, 6}, {"$[?(@).a]", api.ErrForm, 6}, {"$[?(@)==1]", api.ErrForm, 6}, {"$[?(@)(@)]", api.ErrForm, 6},
	})
}

func TestCompileBytes(t *testing.T) {
	most := "$[?@.aa" + strings.Repeat(".a", 56) + "]"
	if len(most) != api.MaxQuery {
		t.Fatalf("%d bytes", len(most))
	}
	expectText(t, most, most)
	begun := most[:len(most)-1]
	expectRefused(t, []refused{
		{"$[?@" + strings.Repeat(".a", 58) + "]", api.ErrLong, 0},
		{begun, api.ErrForm, 119},
		{begun + ".", api.ErrForm, 120},
		{begun + "?", api.ErrForm, 119},
		{most + "?", api.ErrLong, 0},
		{most[1:] + "  ", api.ErrLong, 0},
		{strings.Repeat("x", 120), api.ErrForm, 0},
		{strings.Repeat("x", 121), api.ErrLong, 0},
		{"$[?" + strings.Repeat("!", 118), api.ErrLong, 0},
		{strings.Repeat("$.a", 1000000), api.ErrLong, 0},
	})
}

func TestCompileSelectors(t *testing.T) {
	for _, query := range []string{
		"$" + strings.Repeat("[0]", 10), "$..[" + strings.Repeat("*,", 9) + "*]", "$[?@.a&&@.b[0]||@.c,?@[1][2][3]][0,1,2,3,4,5,6,7]",
		"$[?@.a.a.a.a.a.a.a.a.a.a.a.a]", "$[?@" + strings.Repeat("[0]", 11) + "]", "$[?@||@||@||@||@||@||@||@||@||@||@||@]",
	} {
		expectText(t, query, query)
	}
	expectText(t, "$"+strings.Repeat(".a", 5)+strings.Repeat("..*", 5), "$"+strings.Repeat("['a']", 5)+strings.Repeat("..[*]", 5))
	expectRefused(t, []refused{
		{"$" + strings.Repeat(".a", 11), api.ErrLong, 0},
		{"$" + strings.Repeat(".*", 11), api.ErrLong, 0},
		{"$" + strings.Repeat("..a", 11), api.ErrLong, 0},
		{"$" + strings.Repeat("..*", 11), api.ErrLong, 0},
		{"$" + strings.Repeat("[0]", 11), api.ErrLong, 0},
		{"$[" + strings.Repeat("*,", 10) + "*]", api.ErrLong, 0},
		{"$.a..*['b',-1,:,?@.a,?@.b,0,1][2].c", api.ErrLong, 0},
		{"$" + strings.Repeat(".a", 59), api.ErrLong, 0},
	})
}

func TestCompileWordsAndQuotes(t *testing.T) {
	for _, query := range []string{"$['12345678']", "$['a b c d ']", "$[?@.abcdefgh=='12345678']"} {
		expectText(t, query, query)
	}
	expectText(t, "$.abcdefgh", "$['abcdefgh']")
	expectRefused(t, []refused{
		{"$.abcdefghi", api.ErrForm, 10}, {"$..abcdefghi", api.ErrForm, 11}, {"$['123456789']", api.ErrForm, 11}, {"$['         ']", api.ErrForm, 11},
		{"$[?@.abcdefghi]", api.ErrForm, 13}, {"$[?@=='123456789']", api.ErrForm, 15},
	})
}

func TestCompileCounts(t *testing.T) {
	for _, query := range []string{"$[999]", "$[-999]", "$[999:999]", "$[100:]", "$[?@[999]]", "$[?@[-100]]", "$[?@<999]", "$[?@<-999]"} {
		expectText(t, query, query)
	}
	expectRefused(t, []refused{
		{"$[1000]", api.ErrForm, 5}, {"$[-1000]", api.ErrForm, 6}, {"$[1000:]", api.ErrForm, 5}, {"$[1:1000]", api.ErrForm, 7}, {"$[:1000]", api.ErrForm, 6},
		{"$[?@[1000]]", api.ErrForm, 8}, {"$[?@[-1000]]", api.ErrForm, 9}, {"$[?@<1000]", api.ErrForm, 8}, {"$[?@<-1000]", api.ErrForm, 9},
	})
}

func TestCompileNest(t *testing.T) {
	for _, query := range []string{
		"$[?!!!!!!@]", "$[?((((((@))))))]", "$[?!(!(!(@)))]", "$[?(((!!!@)))]", "$[?!!!!!!@&&!!!!!!@||!!!!!!@]", "$[?!!!!!!@,?!!!!!!@]", "$[?!!!!!!@][?((((((@))))))]",
		"$[?(((((!@&&!@||(@)&&!@)))))]", "$[?!!!!!(@)&&(!!!!!@)]", "$[?!@.a!=1&&!!!!!!@!=1]", "$[?!!!!!!@!=1]",
	} {
		expectText(t, query, query)
	}
	expectRefused(t, []refused{
		{"$[?!!!!!!!@]", api.ErrDeep, 9}, {"$[?(((((((@)))))))]", api.ErrDeep, 9}, {"$[?!!!!!!(@)]", api.ErrDeep, 9}, {"$[?((((((!@))))))]", api.ErrDeep, 9}, {"$[?(!(!(!(@))))]", api.ErrDeep, 9},
		{"$[?!!!!!!@&&!!!!!!!@]", api.ErrDeep, 18}, {"$[?((((((@&&!@))))))]", api.ErrDeep, 12}, {"$[?(!((((@)&&@||!!@))))]", api.ErrDeep, 17}, {"$[?@,?!!!!!!!@]", api.ErrDeep, 12},
	})
}

func TestCompileTellsTheErrorThatComesFirst(t *testing.T) {
	expectRefused(t, []refused{
		{"$[?!!!!!!!", api.ErrDeep, 9}, {"$[?!!!!!!!]", api.ErrDeep, 9}, {"$[?!!!!!!!!!!", api.ErrDeep, 9}, {"$[?!!!!!!", api.ErrForm, 9}, {"$[?!!!!!!]!", api.ErrForm, 9}, {"$[?@)!!!!!!!@]", api.ErrForm, 4}, {"$[?!!!!!!@!!", api.ErrForm, 11},
		{"$" + strings.Repeat(".a", 11) + "!", api.ErrForm, 23}, {"$" + strings.Repeat(".a", 11) + ".", api.ErrForm, 24}, {"$" + strings.Repeat(".a", 11) + "[?!!!!!!!@]", api.ErrDeep, 31},
		{"$" + strings.Repeat(".a", 60), api.ErrLong, 0}, {"$[?!!!!!!!" + strings.Repeat("@", 120), api.ErrLong, 0}, {strings.Repeat("]", 121), api.ErrLong, 0},
	})
}

// TestCompileOfBeginnings: of the beginnings of a right query none is wrong ahead of its end.
func TestCompileOfBeginnings(t *testing.T) {
	query := "$.a..b['c 1',-12,3:4,?!(@.a[0]=='x'||@[-1]<=-2)&&@.b!=null,*]..[?@<true]..*"
	expectText(t, query, "$['a']..['b']"+query[6:len(query)-1]+"[*]")
	for size := range len(query) {
		q, errno, at := Compile(query[:size])
		right := q != nil && errno == api.OK && at == 0
		begun := q == nil && errno == api.ErrForm && at == size
		if !right && !begun {
			t.Errorf("P2: Compile(%q) = %v, %d, %d", query[:size], q, errno, at)
		}
	}
}

// TestQueriesDoNotTouchOneAnother: P1, of the calls that are built.
func TestQueriesDoNotTouchOneAnother(t *testing.T) {
	first, _, _ := Compile("$.a")
	second, _, _ := Compile("$..b[0]")
	if first.Text() != "$['a']" || second.Text() != "$..['b'][0]" {
		t.Errorf("P1: %q, %q", first.Text(), second.Text())
	}
}
