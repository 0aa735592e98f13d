package plan

import (
	"strings"

	"trail/api"
)

// state says what a query may go on with, after the bytes that have been read.
type state int

const (
	wrong         state = iota // no query begins so
	deep                       // too much within one another
	atBegin                    // nothing has been read
	afterSegment               // or behind `$`: here alone a query may end
	afterDot                   // behind `.`
	afterDots                  // behind `..`
	wantSelector               // a selector must begin
	afterCount                 // behind a count that may be the beginning of a piece
	afterColon                 // behind the `:` of a piece
	afterSelector              // behind a selector
	wantPart                   // a part of a condition must begin
	afterStep                  // or behind `@`
	wantStepWord               // behind the `.` of a step
	wantStepCount              // behind the `[` of a step
	wantStepEnd                // a step's `]` must stand
	wantEqual                  // the second byte of `==` or `!=` must stand
	afterLess                  // behind `<`, which may become `<=`
	wantConstant               // a constant must begin
	afterPart                  // behind a part of a condition
	wantAnd                    // behind the first `&`
	wantOr                     // behind the first `|`
	inWord
	inCount
	inQuote
	inNamed // in true, false or null
	afterMinus
)

// reader follows a query byte by byte. It finds out where the query is wrong and nothing else,
// so that what is made of a right query need not ask again.
type reader struct {
	state  state
	behind state  // where the present word, count, quote or named constant leads to
	size   int    // how long that one is by now
	rest   string // what is to come of a named constant
	open   string // each `!` and `(` that the next byte is within
}

// fault tells whether a query is wrong or too deep, and at which place first.
func fault(query string) (api.Errno, int) {
	r := reader{state: atBegin}
	for at := range len(query) {
		r.state = r.next(query[at])
		switch r.state {
		case wrong:
			return api.ErrForm, at
		case deep:
			return api.ErrDeep, at
		}
	}
	if r.mayEnd() {
		return api.OK, 0
	}
	return api.ErrForm, len(query)
}

func (r *reader) mayEnd() bool {
	return r.state == afterSegment || r.state == inWord && r.behind == afterSegment
}

func (r *reader) next(b byte) state {
	switch r.state {
	case inWord, inCount, inQuote, inNamed, afterMinus:
		return r.inside(b)
	}
	return r.between(b)
}

// inside reads on in a word, a count, a quote or a named constant. A word or a count has no mark
// at its end: a byte that is no part of it is read as what stands behind it. That is never a
// letter or a digit, so one too many is wrong at its own place.
func (r *reader) inside(b byte) state {
	switch {
	case r.goesOn(b):
		r.size++
		return r.state
	case r.state == inQuote && b == '\'':
		return r.behind
	case r.state == inNamed && b == r.rest[0]:
		return r.named(r.rest[1:], r.behind)
	case r.state == afterMinus && kindOf(b) == digit:
		return r.count(b, r.behind)
	case r.state == inWord || r.state == inCount:
		r.state = r.behind
		return r.between(b)
	}
	return wrong
}

func (r *reader) goesOn(b byte) bool {
	switch r.state {
	case inWord:
		return isLetter(b) && r.size < api.MaxWord
	case inCount:
		return isDigit(b) && r.size < api.MaxCount
	case inQuote:
		return isQuoted(b) && r.size < api.MaxWord
	}
	return false
}

func (r *reader) between(b byte) state {
	switch r.state {
	case atBegin, afterSegment, afterDot, afterDots:
		return r.segment(b)
	case wantSelector:
		return r.selector(b)
	case afterCount, afterColon, afterSelector:
		return r.selectorEnd(b)
	case wantPart:
		return r.part(b)
	case afterPart:
		return r.partEnd(b)
	case afterStep:
		return r.stepEnd(b)
	case wantEqual, afterLess, wantConstant:
		return r.constant(b)
	}
	return r.within(b)
}

func (r *reader) segment(b byte) state {
	switch {
	case r.state == atBegin && b == '$':
		return afterSegment
	case r.state == afterSegment && b == '.':
		return afterDot
	case r.state == afterSegment && b == '[', r.state == afterDots && b == '[':
		return wantSelector
	case r.state == afterDot && b == '.':
		return afterDots
	case r.state == afterDot, r.state == afterDots:
		return r.wordOrStar(b)
	}
	return wrong
}

func (r *reader) wordOrStar(b byte) state {
	if b == '*' {
		return afterSegment
	}
	return r.word(b, afterSegment)
}

func (r *reader) selector(b byte) state {
	switch b {
	case '*':
		return afterSelector
	case '\'':
		return r.quote(afterSelector)
	case '-':
		return r.minus(afterSelector)
	case ':':
		return afterColon
	case '?':
		return wantPart
	}
	return r.count(b, afterCount)
}

func (r *reader) selectorEnd(b byte) state {
	switch {
	case b == ',':
		return wantSelector
	case b == ']':
		return afterSegment
	case b == ':' && r.state == afterCount:
		return afterColon
	case r.state == afterColon:
		return r.count(b, afterSelector)
	}
	return wrong
}

func (r *reader) part(b byte) state {
	switch {
	case b == '@':
		return afterStep
	case b != '!' && b != '(':
		return wrong
	case len(r.open) == api.MaxNest:
		return deep
	}
	r.open += string(rune(b))
	return wantPart
}

// partEnd reads what stands behind a part of a condition: each `!` that holds the part has its
// end there, too.
func (r *reader) partEnd(b byte) state {
	r.open = strings.TrimRight(r.open, "!")
	switch {
	case b == '&':
		return wantAnd
	case b == '|':
		return wantOr
	case b == ')' && r.open != "":
		r.open = strings.TrimSuffix(r.open, "(")
		return afterPart
	case r.open == "":
		return r.selectorEnd(b)
	}
	return wrong
}

func (r *reader) stepEnd(b byte) state {
	switch b {
	case '.':
		return wantStepWord
	case '[':
		return wantStepCount
	case '=', '!':
		return wantEqual
	case '<':
		return afterLess
	}
	return r.partEnd(b)
}

// within reads the bytes that stand in the middle of a step or of a sign of two bytes.
func (r *reader) within(b byte) state {
	switch {
	case r.state == wantStepWord:
		return r.word(b, afterStep)
	case r.state == wantStepCount:
		return r.signed(b, wantStepEnd)
	case r.state == wantStepEnd && b == ']':
		return afterStep
	case r.state == wantAnd && b == '&', r.state == wantOr && b == '|':
		return wantPart
	}
	return wrong
}

func (r *reader) constant(b byte) state {
	switch {
	case b == '=' && r.state != wantConstant:
		return wantConstant
	case r.state == wantEqual:
		return wrong
	}
	switch b {
	case '\'':
		return r.quote(afterPart)
	case 't':
		return r.named("rue", afterPart)
	case 'f':
		return r.named("alse", afterPart)
	case 'n':
		return r.named("ull", afterPart)
	}
	return r.signed(b, afterPart)
}

func (r *reader) word(b byte, behind state) state {
	if !isLetter(b) {
		return wrong
	}
	r.behind, r.size = behind, 1
	return inWord
}

func (r *reader) quote(behind state) state {
	r.behind, r.size = behind, 0
	return inQuote
}

func (r *reader) named(rest string, behind state) state {
	if rest == "" {
		return behind
	}
	r.behind, r.rest = behind, rest
	return inNamed
}

func (r *reader) signed(b byte, behind state) state {
	if b == '-' {
		return r.minus(behind)
	}
	return r.count(b, behind)
}

func (r *reader) minus(behind state) state {
	r.behind = behind
	return afterMinus
}

// count: behind a 0 no digit may stand, so the count has its end there.
func (r *reader) count(b byte, behind state) state {
	switch kindOf(b) {
	case zero:
		return behind
	case digit:
		r.behind, r.size = behind, 1
		return inCount
	}
	return wrong
}
