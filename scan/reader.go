// Package scan: a text byte by byte: where it is wrong, and the tokens that it is made of.
package scan

import (
	"strings"

	"trail/api"
	"trail/value"
)

// state says what a text may go on with, after the bytes that have been read.
type state int

const (
	wantValue  state = iota // a value must begin; so it is ahead of all bytes
	wantFirst               // behind `[`: a value, or the list's end
	wantMember              // behind `{`: a name, or the thing's end
	wantName                // behind the `,` of a thing
	wantColon               // behind a name
	afterValue              // behind a value
	inString                // or in a name
	afterBackslash
	afterMinus
	inNumber
	inWord // in true, false or null
	deep   // too much within one another
	wrong  // no text begins so
)

// Reader follows a text that comes in pieces. Its zero value has read nothing.
type Reader struct {
	state state
	at    int             // the place of the next byte
	open  []value.Kind    // the lists and things that it is within, at most api.MaxDeep
	token Token           // the value or the name that is being read
	text  strings.Builder // that of the string or name
	rest  string          // what is to come of true, false or null
	size  int             // how many digits the number has by now
	sign  int             // 1 or -1, of the number
	tell  func(Token)     // whom the present call tells of tokens
}

// Read reads on, and tells of each token when it is whole. Once an error has been answered, the
// reader is not to be used any more.
func (r *Reader) Read(piece string, tell func(Token)) (api.Errno, int) {
	r.tell = tell
	errno, at := r.follow(piece)
	r.tell = nil
	return errno, at
}

func (r *Reader) follow(piece string) (api.Errno, int) {
	for i := range len(piece) {
		r.state = r.next(piece[i])
		switch r.state {
		case wrong:
			return api.ErrForm, r.at
		case deep:
			return api.ErrDeep, r.at
		}
		r.at++
	}
	return api.OK, 0
}

// End is the end of the text. A number at it is whole only now.
func (r *Reader) End(tell func(Token)) (api.Errno, int) {
	whole := r.state == afterValue || r.state == inNumber
	if !whole || len(r.open) > 0 {
		return api.ErrForm, r.at
	}
	if r.state == inNumber {
		tell(r.number())
	}
	return api.OK, 0
}

func (r *Reader) next(b byte) state {
	switch r.state {
	case inString:
		return r.stringByte(b)
	case afterBackslash:
		return r.escapedByte(b)
	case afterMinus, inNumber:
		return r.numberByte(b)
	case inWord:
		return r.wordByte(b)
	}
	if isBlank(b) {
		return r.state
	}
	return r.between(b)
}

func (r *Reader) between(b byte) state {
	switch {
	case r.state == afterValue:
		return r.behindValue(b)
	case r.state == wantColon && b == ':':
		return wantValue
	case r.state == wantFirst && b == ']', r.state == wantMember && b == '}':
		return r.shut()
	case r.state == wantFirst, r.state == wantValue:
		return r.begin(b)
	case r.state != wantColon && b == '"':
		return r.beginString(Name)
	}
	return wrong
}

func (r *Reader) begin(b byte) state {
	switch b {
	case '[':
		return r.beginListOrThing(value.List, wantFirst)
	case '{':
		return r.beginListOrThing(value.Thing, wantMember)
	case '"':
		return r.beginString(Plain)
	case 't':
		return r.beginWord(value.True, "rue")
	case 'f':
		return r.beginWord(value.False, "alse")
	case 'n':
		return r.beginWord(value.Null, "ull")
	}
	return r.beginNumber(b)
}

func (r *Reader) beginListOrThing(of value.Kind, behind state) state {
	if len(r.open) == api.MaxDeep {
		return deep
	}
	r.open = append(r.open, of)
	r.tell(Token{Kind: Open, Of: of, From: r.at})
	return behind
}

func (r *Reader) shut() state {
	r.open = r.open[:len(r.open)-1]
	r.tell(Token{Kind: Shut, To: r.at + 1})
	return afterValue
}

func (r *Reader) behindValue(b byte) state {
	switch {
	case !r.mayFollow(b):
		return wrong
	case isBlank(b):
		return afterValue
	case b != ',':
		return r.shut()
	case r.innermost() == value.Thing:
		return wantName
	}
	return wantValue
}

// mayFollow asks whether a byte may stand behind a value.
func (r *Reader) mayFollow(b byte) bool {
	switch {
	case isBlank(b):
		return true
	case len(r.open) == 0:
		return false
	case r.innermost() == value.Thing:
		return b == ',' || b == '}'
	}
	return b == ',' || b == ']'
}

func (r *Reader) innermost() value.Kind { return r.open[len(r.open)-1] }

func (r *Reader) beginString(kind TokenKind) state {
	r.token = Token{Kind: kind, Of: value.String, From: r.at}
	return inString
}

func (r *Reader) stringByte(b byte) state {
	switch kindOf(b) {
	case foreign, lineEnd:
		return wrong
	case backslash:
		return afterBackslash
	case quote:
		return r.endString()
	}
	return r.addByte(b)
}

func (r *Reader) escapedByte(b byte) state {
	if kindOf(b) != quote && kindOf(b) != backslash {
		return wrong
	}
	return r.addByte(b)
}

// addByte: a name is part of paths, so it is held whole.
func (r *Reader) addByte(b byte) state {
	if r.token.Kind == Name || r.text.Len() < value.MaxText {
		r.text.WriteByte(b)
	}
	return inString
}

func (r *Reader) endString() state {
	r.token.Text = r.text.String()
	r.text.Reset()
	if r.token.Kind == Plain {
		return r.endPlain()
	}
	r.tell(r.token)
	return wantColon
}

// endPlain ends a value at the present byte, which is its last one.
func (r *Reader) endPlain() state {
	r.token.To = r.at + 1
	r.tell(r.token)
	return afterValue
}

func (r *Reader) beginWord(of value.Kind, rest string) state {
	r.token = Token{Kind: Plain, Of: of, From: r.at}
	r.rest = rest
	return inWord
}

func (r *Reader) wordByte(b byte) state {
	if b != r.rest[0] {
		return wrong
	}
	r.rest = r.rest[1:]
	if r.rest == "" {
		return r.endPlain()
	}
	return inWord
}

func (r *Reader) beginNumber(b byte) state {
	r.token = Token{Kind: Plain, Of: value.Number, From: r.at}
	r.size, r.sign = 0, 1
	switch {
	case b == '-':
		r.sign = -1
		return afterMinus
	case isDigit(b):
		return r.addDigit(b)
	}
	return wrong
}

// numberByte: a number has no mark at its end, so it is whole when a byte behind it has come that
// may stand there.
func (r *Reader) numberByte(b byte) state {
	switch {
	case r.state == afterMinus && kindOf(b) != digit:
		return wrong
	case isDigit(b) && r.size < api.MaxDigits:
		return r.addDigit(b)
	case !r.mayFollow(b):
		return wrong
	}
	r.tell(r.number())
	return r.behindValue(b)
}

// addDigit: behind a 0 that is the first digit no other may stand, as behind the last of the most digits.
func (r *Reader) addDigit(b byte) state {
	r.token.Number = r.token.Number*10 + int(b-'0')
	r.size++
	if r.token.Number == 0 {
		r.size = api.MaxDigits
	}
	return inNumber
}

// number is the number that ends at the present place.
func (r *Reader) number() Token {
	number := r.token
	number.Number *= r.sign
	number.To = r.at
	return number
}
