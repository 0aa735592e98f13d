package scan

import (
	"fmt"
	"strings"
	"testing"

	"trail/api"
	"trail/value"
)

// descent holds the reader against the document's grammar written down a second time, each of its
// rules a function that goes on from a place and stops where the text is wrong.
type descent struct {
	text    string
	at      int
	tooDeep bool
}

func (d *descent) has(set string) bool {
	return d.at < len(d.text) && strings.IndexByte(set, d.text[d.at]) >= 0
}

func (d *descent) takes(set string) bool {
	if !d.has(set) {
		return false
	}
	d.at++
	return true
}

func (d *descent) takesAll(word string) bool {
	for i := range len(word) {
		if !d.takes(word[i : i+1]) {
			return false
		}
	}
	return true
}

func (d *descent) blanks() bool {
	for d.takes(" \n") {
	}
	return true
}

func (d *descent) value(within int) bool {
	d.blanks()
	switch {
	case d.has("[{") && within == api.MaxDeep:
		d.tooDeep = true
		return false
	case d.takes("["):
		return d.row("]", func() bool { return d.value(within + 1) })
	case d.takes("{"):
		return d.row("}", func() bool {
			return d.blanks() && d.takes(`"`) && d.restOfString() && d.blanks() && d.takes(":") && d.value(within+1)
		})
	case d.takes(`"`):
		return d.restOfString()
	case d.has("t"):
		return d.takesAll("true")
	case d.has("f"):
		return d.takesAll("false")
	case d.has("n"):
		return d.takesAll("null")
	}
	return d.number()
}

func (d *descent) row(end string, one func() bool) bool {
	d.blanks()
	if d.takes(end) {
		return true
	}
	for one() && d.blanks() {
		if !d.takes(",") {
			return d.takes(end)
		}
	}
	return false
}

func (d *descent) restOfString() bool {
	for d.at < len(d.text) && d.text[d.at] >= 32 && d.text[d.at] <= 126 {
		switch {
		case d.takes(`"`):
			return true
		case d.takes(`\`):
			if !d.takes(`"\`) {
				return false
			}
		default:
			d.at++
		}
	}
	return false
}

func (d *descent) number() bool {
	if !d.takes("-") && d.takes("0") {
		return true
	}
	if !d.takes("123456789") {
		return false
	}
	for digits := 1; digits < api.MaxDigits && d.takes("0123456789"); digits++ {
	}
	return true
}

func wanted(text string) (api.Errno, int) {
	d := descent{text: text}
	switch {
	case d.value(0) && d.blanks() && d.at == len(text):
		return api.OK, 0
	case d.tooDeep:
		return api.ErrDeep, d.at
	}
	return api.ErrForm, d.at
}

// read reads a text that comes in these pieces; the tokens are written one behind the other.
func read(pieces ...string) (string, api.Errno, int) {
	var r Reader
	var told strings.Builder
	tell := func(token Token) { told.WriteString(written(token)) }
	for _, piece := range pieces {
		if errno, at := r.Read(piece, tell); errno != api.OK {
			return told.String(), errno, at
		}
	}
	errno, at := r.End(tell)
	return told.String(), errno, at
}

func written(token Token) string {
	switch token.Kind {
	case Open:
		return fmt.Sprintf("open %d from %d; ", token.Of, token.From)
	case Shut:
		return fmt.Sprintf("shut to %d; ", token.To)
	case Name:
		return fmt.Sprintf("name %q; ", token.Text)
	}
	return fmt.Sprintf("plain %d %d %q from %d to %d; ", token.Of, token.Number, token.Text, token.From, token.To)
}

func holdAgainst(t *testing.T, text string) {
	t.Helper()
	wantErrno, wantAt := wanted(text)
	if _, errno, at := read(text); errno != wantErrno || at != wantAt {
		t.Fatalf("%q: %d at %d, want %d at %d", text, errno, at, wantErrno, wantAt)
	}
}

// signs: each byte that a text may have, or one of those that are alike, and some that it may not have.
const signs = "[]{},:\"\\ \n-0129trufalsenx'\t\x00\x1f~\x7f\x80\xff"

func TestFaultBehindEachState(t *testing.T) {
	seven := strings.Repeat("[", 7)
	for _, begin := range []string{
		"", " ", "[", "[ ", "{", "{\n", "[1,", "{\"a\":1,", "{\"", "{\"a", "{\"a\"", "{\"a\" ", "{\"a\":", "{\"a\": ", "[1", "[1 ", "{\"a\":1", "{\"a\":[]", "{}", "[]", "[] ",
		"\"", "\"\\", "\"a", "\"a\"", "-", "-1", "0", "[0", "[-", "12345678", "123456789", "-12345678", "-123456789", "[100000000", "t", "tr", "tru", "true", "[true", "f", "fals", "false", "n", "nul", "null", "[null",
		seven, seven + "[", seven + "{", seven + "[]", seven + "{\"a\":", seven + "{\"a\":1", seven + "[1,", seven + "[]]]]]]]]", strings.Repeat("{\"a\":", 7), strings.Repeat("{\"a\":", 8), "[[[[[[[[]]]],[[[[",
	} {
		holdAgainst(t, begin)
		for i := range len(signs) {
			one := begin + signs[i:i+1]
			holdAgainst(t, one)
			for k := range len(signs) {
				holdAgainst(t, one+signs[k:k+1])
			}
		}
	}
}

func TestFaultOfAlteredTexts(t *testing.T) {
	for _, text := range []string{
		`{"a":[1,{"b":-20}],"":"x\"\\ y","c":{}}`, " [ true , false\n,null , [ ] , { } ]\n", `[[[[[[[["",0]]]],[[[[]]]]]]]]`, `{"a":{"b":{"c":{"d":{"e":{"f":{"g":{"h":123456789}}}}}}}}`,
	} {
		for at := range len(text) + 1 {
			holdAgainst(t, text[:at])
			for i := range len(signs) {
				holdAgainst(t, text[:at]+signs[i:i+1]+text[at:])
				if at < len(text) {
					holdAgainst(t, text[:at]+signs[i:i+1]+text[at+1:])
					holdAgainst(t, text[:at]+text[at+1:])
				}
			}
		}
	}
}

func TestFaultOfShortTexts(t *testing.T) {
	const few = `[]{},:"\ 01-`
	var lengthen func(text string, by int)
	lengthen = func(text string, by int) {
		holdAgainst(t, text)
		for i := 0; i < len(few) && by > 0; i++ {
			lengthen(text+few[i:i+1], by-1)
		}
	}
	lengthen("", 5)
}

func TestFaultOfEveryByte(t *testing.T) {
	for b := range 256 {
		for _, begin := range []string{"", "1", "[", "{", `"`, `"\`, "[1", `{"a"`, `{"`, "t", "-", "[]"} {
			holdAgainst(t, begin+string([]byte{byte(b)}))
		}
	}
}

func TestTokens(t *testing.T) {
	for _, c := range []struct{ text, want string }{
		{" {\"a\\\"b\" : [ 1,-20 ] , \"\":\"x\\\\\" }", fmt.Sprintf(`open %d from 1; name "a\"b"; open %d from 11; plain %d 1 "" from 13 to 14; plain %d -20 "" from 15 to 18; shut to 20; name ""; plain %d 0 "x\\" from 26 to 31; shut to 33; `, value.Thing, value.List, value.Number, value.Number, value.String)},
		{"[true,false,null]", fmt.Sprintf(`open %d from 0; plain %d 0 "" from 1 to 5; plain %d 0 "" from 6 to 11; plain %d 0 "" from 12 to 16; shut to 17; `, value.List, value.True, value.False, value.Null)},
		{"0", fmt.Sprintf(`plain %d 0 "" from 0 to 1; `, value.Number)},
		{"-999999999\n", fmt.Sprintf(`plain %d -999999999 "" from 0 to 10; `, value.Number)},
		{`{"123456789012":"123456789012"}`, fmt.Sprintf(`open %d from 0; name "123456789012"; plain %d 0 "123456789" from 16 to 30; shut to 31; `, value.Thing, value.String)},
	} {
		if got, errno, at := read(c.text); got != c.want || errno != api.OK || at != 0 {
			t.Errorf("%q: %s%d at %d, want %s", c.text, got, errno, at, c.want)
		}
	}
}

// TestTokensAheadOfAFault: a number is not whole if the byte behind it is wrong.
func TestTokensAheadOfAFault(t *testing.T) {
	number, list := fmt.Sprintf(`plain %d 1 "" `, value.Number), fmt.Sprintf("open %d from 0; ", value.List)
	for _, c := range []struct{ text, want string }{
		{"1x", ""}, {"1,", ""}, {"1]", ""}, {"[1}", list}, {"[1\"", list}, {"[1,x", list + number + "from 1 to 2; "}, {"1 x", number + "from 0 to 1; "}, {"[1]]", list + number + "from 1 to 2; shut to 3; "}, {"truu", ""}, {`"a`, ""}, {"[1", list}, {"[1 ", list + number + "from 1 to 2; "},
	} {
		if got, errno, _ := read(c.text); got != c.want || errno != api.ErrForm {
			t.Errorf("%q: %s%d, want %s%d", c.text, got, errno, c.want, api.ErrForm)
		}
	}
}

func TestHowATextIsCutMeansNothing(t *testing.T) {
	for _, text := range []string{`{"a\\":[1,-23,"x\"y",true,null],"b":{"":0}} `, "12345", "[1,2,x]", "[[[[[[[[[", `{"a":"b`} {
		want, wantErrno, wantAt := read(text)
		for first := range len(text) + 1 {
			for second := first; second <= len(text); second++ {
				got, errno, at := read(text[:first], text[first:second], text[second:])
				if got != want || errno != wantErrno || at != wantAt {
					t.Fatalf("%q, %q, %q: %s%d at %d, want %s%d at %d", text[:first], text[first:second], text[second:], got, errno, at, want, wantErrno, wantAt)
				}
			}
		}
	}
}

// TestRoom: however a text is cut, no piece has more tokens than there is room for.
func TestRoom(t *testing.T) {
	texts := []string{`{"a\\":[1,-23,"x\"y",true,null,false],"b":{"":0}} `, "[[[[1]]]]", "[1,2]", "12", "[[],{},[0 ]]", "[0\n,1", "[1x", "{\"eel\":[\"eel\",1]}"}
	for digit := range 10 {
		texts = append(texts, fmt.Sprintf("[%d,%d,%d]", digit, digit, digit))
	}
	for _, text := range texts {
		for first := range len(text) + 1 {
			for second := first; second <= len(text); second++ {
				expectRoom(t, text[:first], text[first:second], text[second:])
			}
		}
	}
	if room := Room(strings.Repeat("x ,:\n-", 1000)); room != 1 {
		t.Errorf("room for %d tokens where none ends", room)
	}
}

func expectRoom(t *testing.T, pieces ...string) {
	t.Helper()
	var r Reader
	count := 0
	tell := func(Token) { count++ }
	for _, piece := range pieces {
		count = 0
		errno, _ := r.Read(piece, tell)
		if count > Room(piece) {
			t.Errorf("%q of %q: %d tokens, room for %d", piece, pieces, count, Room(piece))
		}
		if errno != api.OK {
			return
		}
	}
	count = 0
	r.End(tell)
	if count > Room("") {
		t.Errorf("the end of %q: %d tokens, room for %d", pieces, count, Room(""))
	}
}
