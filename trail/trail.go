// Package trail: what a query finds in a text of values within values: see DOC.md.
package trail

import (
	"trail/api"
	"trail/follow"
	"trail/plan"
	"trail/scan"
	"trail/tree"
)

// Query is a query.
type Query struct {
	plan *plan.Plan
}

// Compile reads a query (P2).
func Compile(query string) (*Query, api.Errno, int) {
	p, errno, at := plan.Make(query)
	if errno != api.OK {
		return nil, errno, at
	}
	return &Query{plan: p}, api.OK, 0
}

// Text writes it (P3).
func (q *Query) Text() string { return q.plan.Text }

// Select tells its nodes in a text (P4).
func (q *Query) Select(text string) ([]api.Node, api.Errno, int) {
	root, errno, at := tree.Read(text)
	if errno != api.OK {
		return nil, errno, at
	}
	var nodes []api.Node
	for _, v := range q.plan.Nodes(root) {
		nodes = append(nodes, v.Node())
	}
	return nodes, api.OK, 0
}

// Stream follows a text that comes in pieces.
type Stream struct {
	reader   *scan.Reader
	follower *follow.Follower
	errno    api.Errno // what every later call answers, and at; OK if the text may go on
	at       int
}

// Stream makes a stream (P5).
func (q *Query) Stream() *Stream {
	return &Stream{reader: &scan.Reader{}, follower: follow.New(q.plan)}
}

// Feed takes a piece (P5).
func (s *Stream) Feed(piece string) ([]api.Match, api.Errno, int) {
	told, errno, at := s.goOn(piece, func(tell func(scan.Token)) (api.Errno, int) {
		return s.reader.Read(piece, tell)
	})
	if errno != api.OK {
		s.stop(errno, at)
	}
	return told, errno, at
}

// Close ends the text (P5).
func (s *Stream) Close() ([]api.Match, api.Errno, int) {
	told, errno, at := s.goOn("", func(tell func(scan.Token)) (api.Errno, int) {
		return s.reader.End(tell)
	})
	s.stop(api.ErrClosed, 0)
	return told, errno, at
}

// goOn sends the tokens of a piece, of which read tells, to the follower.
func (s *Stream) goOn(piece string, read func(tell func(scan.Token)) (api.Errno, int)) ([]api.Match, api.Errno, int) {
	if s.errno != api.OK {
		return nil, s.errno, s.at
	}
	tokens := make(chan scan.Token, scan.Room(piece))
	errno, at := read(func(token scan.Token) { tokens <- token })
	close(tokens)
	return s.follower.Follow(tokens), errno, at
}

// stop lets go of all that was kept of the text.
func (s *Stream) stop(errno api.Errno, at int) {
	*s = Stream{errno: errno, at: at}
}
