package word

// kind is a code point's break, a bit each, so that several of them together are a kind too.
type kind uint32

const (
	other kind = 1 << iota
	cr
	lf
	newline
	zwj
	extend
	format
	picture
	space
	letter
	hebrew
	singleQuote
	doubleQuote
	midLetter
	midNum
	midNumLet
	numeric
	katakana
	joiner
	flag
)

const (
	nothing kind = 0 // what stands ahead of a text's beginning, and behind its end
	all          = ^nothing

	lineEnd = newline | cr | lf
	passed  = extend | format | zwj
	letters = letter | hebrew
	quotes  = midNumLet | singleQuote
	joined  = letters | numeric | katakana // what a joiner holds together
)

// in tells whether a kind is one of several.
func (k kind) in(several kind) bool { return k&several != 0 }

// kindOf is the kind of a break that the tables tell.
func kindOf(name string) kind {
	switch name {
	case "CR":
		return cr
	case "LF":
		return lf
	case "Newline":
		return newline
	case "ZWJ":
		return zwj
	case "Extend":
		return extend
	case "Format":
		return format
	case "Pictographic":
		return picture
	case "Space":
		return space
	case "Letter":
		return letter
	case "Hebrew":
		return hebrew
	case "SingleQuote":
		return singleQuote
	case "DoubleQuote":
		return doubleQuote
	case "MidLetter":
		return midLetter
	case "MidNum":
		return midNum
	case "MidNumLet":
		return midNumLet
	case "Numeric":
		return numeric
	case "Katakana":
		return katakana
	case "Joiner":
		return joiner
	case "Flag":
		return flag
	}
	return other
}
