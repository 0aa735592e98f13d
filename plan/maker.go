package plan

import (
	"math"
	"strconv"
	"strings"

	"trail/value"
)

// maker goes through a query once, from its first byte to its last. The query is right: so
// what need not be asked to tell one thing from another is passed over.
type maker struct {
	query     string
	at        int
	text      strings.Builder
	selectors int
}

func (m *maker) plan() *Plan {
	m.takes("$")
	m.text.WriteString("$")
	var segments []segment
	for m.at < len(m.query) {
		segments = append(segments, m.segment())
	}
	return &Plan{Text: m.text.String(), segments: segments, head: headOf(segments)}
}

func headOf(segments []segment) int {
	for i, s := range segments {
		if s.late {
			return i
		}
	}
	return len(segments)
}

func (m *maker) segment() segment {
	throughout := m.takes("..")
	if throughout {
		m.text.WriteString("..")
	}
	selectors := m.segmentSelectors()
	m.selectors += len(selectors)
	return segmentOf(throughout, selectors)
}

func (m *maker) segmentSelectors() []selector {
	if strings.HasPrefix(m.query[m.at:], "[") {
		return m.bracketed()
	}
	m.takes(".")
	return []selector{m.wordOrStar()}
}

func (m *maker) wordOrStar() selector {
	if m.takes("*") {
		m.text.WriteString("[*]")
		return selector{kind: every}
	}
	word := m.run(isLetter)
	m.text.WriteString("['" + word + "']")
	return selector{kind: named, name: word}
}

func (m *maker) bracketed() []selector {
	from := m.at
	m.takes("[")
	selectors := []selector{m.selector()}
	for m.takes(",") {
		selectors = append(selectors, m.selector())
	}
	m.takes("]")
	m.text.WriteString(m.query[from:m.at])
	return selectors
}

func (m *maker) selector() selector {
	switch {
	case m.takes("*"):
		return selector{kind: every}
	case m.takes("'"):
		return selector{kind: named, name: m.quoted()}
	case m.takes("-"):
		return selector{kind: fromEnd, from: m.count(0)}
	case m.takes("?"):
		return selector{kind: filtered, met: m.condition()}
	}
	from := m.count(0)
	if m.takes(":") {
		return selector{kind: piece, from: from, to: m.count(math.MaxInt)}
	}
	return selector{kind: counted, from: from}
}

func (m *maker) condition() condition {
	parts := []condition{m.conjunction()}
	for m.takes("||") {
		parts = append(parts, m.conjunction())
	}
	return oneMet(parts)
}

func (m *maker) conjunction() condition {
	parts := []condition{m.part()}
	for m.takes("&&") {
		parts = append(parts, m.part())
	}
	return allMet(parts)
}

func (m *maker) part() condition {
	switch {
	case m.takes("!"):
		return notMet(m.part())
	case m.takes("("):
		enclosed := m.condition()
		m.takes(")")
		return enclosed
	}
	m.takes("@")
	return m.test(leadBy(m.steps()))
}

func (m *maker) test(leads lead) condition {
	switch {
	case m.takes("=="):
		return isEqual(leads, m.constant())
	case m.takes("!="):
		return notMet(isEqual(leads, m.constant()))
	case m.takes("<="):
		constant := m.constant()
		return oneMet([]condition{isLess(leads, constant), isEqual(leads, constant)})
	case m.takes("<"):
		return isLess(leads, m.constant())
	}
	return isThere(leads)
}

func (m *maker) steps() []lead {
	var steps []lead
	for {
		switch {
		case m.takes("."):
			steps = append(steps, toMember(m.run(isLetter)))
		case m.takes("["):
			steps = append(steps, m.elementStep())
			m.takes("]")
		default:
			return steps
		}
	}
}

func (m *maker) elementStep() lead {
	if m.takes("-") {
		return toElementFromEnd(m.count(0))
	}
	return toElement(m.count(0))
}

func (m *maker) constant() *value.Value {
	switch {
	case m.takes("true"):
		return &value.Value{Kind: value.True}
	case m.takes("false"):
		return &value.Value{Kind: value.False}
	case m.takes("null"):
		return &value.Value{Kind: value.Null}
	case m.takes("'"):
		return &value.Value{Kind: value.String, Text: m.quoted()}
	case m.takes("-"):
		return &value.Value{Kind: value.Number, Number: -m.count(0)}
	}
	return &value.Value{Kind: value.Number, Number: m.count(0)}
}

// quoted reads a quote from behind its first byte on.
func (m *maker) quoted() string {
	text := m.run(isQuoted)
	m.takes("'")
	return text
}

// count answers what is handed in, if no count stands here.
func (m *maker) count(ifNone int) int {
	number, err := strconv.Atoi(m.run(isDigit))
	if err != nil {
		return ifNone
	}
	return number
}

func (m *maker) takes(sign string) bool {
	if !strings.HasPrefix(m.query[m.at:], sign) {
		return false
	}
	m.at += len(sign)
	return true
}

func (m *maker) run(fits func(b byte) bool) string {
	from := m.at
	for m.at < len(m.query) && fits(m.query[m.at]) {
		m.at++
	}
	return m.query[from:m.at]
}
