package scan

// kind sorts the bytes of a text by what they may be part of.
type kind int

const (
	foreign kind = iota // stands in no text
	lineEnd             // stands in no string
	blank
	zero
	digit // 1 to 9: a number may begin with it and go on
	quote
	backslash
	plain // every other byte that a string may have
)

func kindOf(b byte) kind {
	switch {
	case b == '\n':
		return lineEnd
	case b < 32 || b > 126:
		return foreign
	case b == ' ':
		return blank
	case b == '0':
		return zero
	case b >= '1' && b <= '9':
		return digit
	case b == '"':
		return quote
	case b == '\\':
		return backslash
	}
	return plain
}

func isBlank(b byte) bool { return kindOf(b) == blank || kindOf(b) == lineEnd }

func isDigit(b byte) bool { return kindOf(b) == zero || kindOf(b) == digit }
