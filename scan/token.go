package scan

import (
	"strings"

	"trail/value"
)

// TokenKind says what a token tells.
type TokenKind int

const (
	Open  TokenKind = iota // a list or a thing begins
	Shut                   // the innermost list or thing that is open ends
	Name                   // of the member whose value comes next
	Plain                  // a value within which there is none, whole
)

// Token is what a reader tells of. Beside Kind, it has what that kind needs.
type Token struct {
	Kind     TokenKind
	Of       value.Kind // what the value is that begins
	From, To int        // the ends of the value's span that are known
	Number   int
	Text     string // a name, or a string as far as value.Value holds it
}

// lastBytes are those that a token may end with.
const lastBytes = `[]{}"0123456789el`

// Room tells how many tokens a reader can tell of while it reads a piece: those that end in it, and
// the number that ended ahead of it and is whole only now.
func Room(piece string) int {
	room := 1
	for i := range len(piece) {
		if strings.IndexByte(lastBytes, piece[i]) >= 0 {
			room++
		}
	}
	return room
}
