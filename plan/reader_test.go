package plan

import (
	"slices"
	"strings"
	"testing"

	"trail/api"
)

// These tests hold the reader against the document's grammar written down a second time, as it
// stands there, and gone through in every way at once: a query is wrong at the farthest place at
// which no way goes on.

// recognizer has gone through a query as far as far; tooDeep is the last place of a mark that is too deep.
type recognizer struct {
	query        string
	far, tooDeep int
}

// rule tells where what it stands for may end, if it begins at a place within nest marks.
type rule func(r *recognizer, at, nest int) []int

func oneOf(set string) rule {
	return func(r *recognizer, at, nest int) []int {
		r.far = max(r.far, at)
		if at < len(r.query) && strings.IndexByte(set, r.query[at]) >= 0 {
			return []int{at + 1}
		}
		return nil
	}
}

func sign(text string) rule {
	var bytes []rule
	for i := range len(text) {
		bytes = append(bytes, oneOf(text[i:i+1]))
	}
	return inRow(bytes...)
}

// fromEach goes on with a rule from each of some places.
func fromEach(r *recognizer, places []int, next rule, nest int) []int {
	var ends []int
	for _, at := range places {
		ends = append(ends, next(r, at, nest)...)
	}
	slices.Sort(ends)
	return slices.Compact(ends)
}

func inRow(rules ...rule) rule {
	return func(r *recognizer, at, nest int) []int {
		ends := []int{at}
		for _, next := range rules {
			ends = fromEach(r, ends, next, nest)
		}
		return ends
	}
}

func either(rules ...rule) rule {
	return func(r *recognizer, at, nest int) []int {
		var ends []int
		for _, one := range rules {
			ends = append(ends, one(r, at, nest)...)
		}
		return ends
	}
}

func repeated(least, most int, one rule) rule {
	return func(r *recognizer, at, nest int) []int {
		var all []int
		ends := []int{at}
		for times := 0; times <= most && len(ends) > 0; times++ {
			if times >= least {
				all = append(all, ends...)
			}
			if times < most {
				ends = fromEach(r, ends, one, nest)
			}
		}
		return all
	}
}

func perhaps(one rule) rule { return repeated(0, 1, one) }

func parted(one rule, by string) rule {
	return inRow(one, repeated(0, api.MaxQuery, inRow(sign(by), one)))
}

func nested(mark string, rest rule) rule {
	return func(r *recognizer, at, nest int) []int {
		ends := oneOf(mark)(r, at, nest)
		if len(ends) > 0 && nest >= api.MaxNest {
			r.tooDeep = max(r.tooDeep, at)
			return nil
		}
		return fromEach(r, ends, rest, nest+1)
	}
}

const (
	lettersOfWords = "abcdefghijklmnopqrstuvwxyz"
	allDigits      = "0123456789"
)

// lexemes: the rules that stand both in conditions and outside of them.
func lexemes() (word, quote, count, back rule) {
	notZero := inRow(oneOf("123456789"), repeated(0, api.MaxCount-1, oneOf(allDigits)))
	word = repeated(1, api.MaxWord, oneOf(lettersOfWords))
	quote = inRow(sign("'"), repeated(0, api.MaxWord, oneOf(lettersOfWords+allDigits+" ")), sign("'"))
	return word, quote, either(sign("0"), notZero), inRow(sign("-"), notZero)
}

func conditionRule() rule {
	word, quote, count, back := lexemes()
	step := either(inRow(sign("."), word), inRow(sign("["), either(count, back), sign("]")))
	constant := either(count, back, quote, sign("true"), sign("false"), sign("null"))
	compare := inRow(either(sign("=="), sign("!="), sign("<"), sign("<=")), constant)
	test := inRow(sign("@"), repeated(0, api.MaxQuery, step), perhaps(compare))
	var part, whole rule
	again := func(r *recognizer, at, nest int) []int { return part(r, at, nest) }
	enclosed := func(r *recognizer, at, nest int) []int { return whole(r, at, nest) }
	part = either(nested("!", again), nested("(", inRow(enclosed, sign(")"))), test)
	whole = parted(parted(part, "&&"), "||")
	return whole
}

func queryRule() rule {
	word, quote, count, back := lexemes()
	piece := inRow(perhaps(count), sign(":"), perhaps(count))
	selector := either(sign("*"), quote, count, back, piece, inRow(sign("?"), conditionRule()))
	brackets := inRow(sign("["), parted(selector, ","), sign("]"))
	short := either(word, sign("*"))
	segment := either(inRow(sign("."), short), inRow(sign(".."), either(short, brackets)), brackets)
	return inRow(sign("$"), repeated(0, api.MaxQuery, segment))
}

func recognize(whole rule, query string) (api.Errno, int) {
	r := recognizer{query: query, tooDeep: -1}
	ends := whole(&r, 0, 0)
	switch {
	case slices.Contains(ends, len(query)):
		return api.OK, 0
	case r.tooDeep == r.far:
		return api.ErrDeep, r.far
	}
	return api.ErrForm, r.far
}

func holdAgainst(t *testing.T, whole rule, query string) {
	t.Helper()
	wantErrno, wantAt := recognize(whole, query)
	if errno, at := fault(query); errno != wantErrno || at != wantAt {
		t.Fatalf("fault(%q) = %d, %d, want %d, %d", query, errno, at, wantErrno, wantAt)
	}
}

// signs: each byte that a query may have, or one of those that are alike, and some that it may not have.
const signs = "$.*[]',-:?@!()=<&|019 atrunlfsez>A\"\\\n\x00\x80\xff"

func TestFaultBehindEachState(t *testing.T) {
	whole := queryRule()
	for _, begin := range []string{
		"", "$", "$.", "$..", "$.a", "$..a", "$.*", "$[", "$..[", "$[*", "$['", "$['a", "$[''", "$[0", "$[1", "$[-", "$[-1",
		"$[:", "$[1:", "$[:1", "$[0,", "$[*]", "$[?", "$[?!", "$[?(", "$[?@", "$[?(@", "$[?@.", "$[?@.a", "$[?@[", "$[?@[0",
		"$[?@[-", "$[?@[1]", "$[?@=", "$[?@!", "$[?@<", "$[?@==", "$[?@<=", "$[?@==t", "$[?@==fals", "$[?@==true", "$[?@==null",
		"$[?@==0", "$[?@==-", "$[?@==12", "$[?@<'", "$[?@<''", "$[?(@)", "$[?!(@)", "$[?@&", "$[?@|", "$[?@&&", "$[?@||", "$[?@]",
		"$[?!!!!!", "$[?!(!(!", "$[?((((((@)))", "$[?(((((@&&!@)", "$[?((((((@", "$[?!!!!!@&&!!!!!", "$[12", "$[123", "$[?@[123", "$[?@==-123", "$.abcdefgh", "$['abcd efg", "$['abcd 123",
	} {
		holdAgainst(t, whole, begin)
		for i := range len(signs) {
			one := begin + signs[i:i+1]
			holdAgainst(t, whole, one)
			for k := range len(signs) {
				holdAgainst(t, whole, one+signs[k:k+1])
			}
		}
	}
}

func TestFaultOfAlteredQueries(t *testing.T) {
	whole := queryRule()
	for _, query := range []string{
		"$.ab..cd.*..*[*]['a 0','']", "$[0,-1,1:2,:,1:,:2,?@,*]..[10,-999]", "$[?@.a[0][-12].bc==-120,?!@<'x y',0]",
		"$[?(@==true||!(@!=false))&&@<=null||@[1]]..a", "$[?!(((((@.a)))))&&(!(!(!@)))]", "$[?!(((((!@)))))&&!!!!!!!@]",
	} {
		for at := range len(query) + 1 {
			holdAgainst(t, whole, query[:at])
			for i := range len(signs) {
				holdAgainst(t, whole, query[:at]+signs[i:i+1]+query[at:])
				if at < len(query) {
					holdAgainst(t, whole, query[:at]+signs[i:i+1]+query[at+1:])
					holdAgainst(t, whole, query[:at]+query[at+1:])
				}
			}
		}
	}
}

func TestFaultOfEveryByte(t *testing.T) {
	whole := queryRule()
	for b := range 256 {
		for _, begin := range []string{"", "$", "$.", "$.a", "$['", "$[", "$[?@==", "$[?@.a"} {
			holdAgainst(t, whole, begin+string([]byte{byte(b)}))
		}
	}
}
