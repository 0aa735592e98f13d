package plan

// kind sorts the bytes of a query by what they may be part of.
type kind int

const (
	mark   kind = iota // stands for itself, or for nothing
	letter             // a to z
	zero
	digit // 1 to 9: a count may begin with it and go on
	blank
)

func kindOf(b byte) kind {
	switch {
	case b >= 'a' && b <= 'z':
		return letter
	case b == '0':
		return zero
	case b >= '1' && b <= '9':
		return digit
	case b == ' ':
		return blank
	}
	return mark
}

func isLetter(b byte) bool { return kindOf(b) == letter }

func isDigit(b byte) bool { return kindOf(b) == zero || kindOf(b) == digit }

func isQuoted(b byte) bool { return kindOf(b) != mark }
