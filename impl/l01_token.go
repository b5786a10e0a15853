package impl

import (
	"bytes"
	"iter"
)

const MaxText = 1500
const MaxName = 6

const TkUpper = 1
const TkLower = 2
const TkOpen = 3
const TkClose = 4

type Token struct {
	Kind int
	At   int
	Text []byte
}

func UpperOk(b []byte) bool {
	return nameLong(b) && isUpper(b[0]) && allLower(b[1:])
}

func LowerOk(b []byte) bool {
	return nameLong(b) && allLower(b)
}

func Kept(b []byte) bool {
	switch string(b) {
	case "Top", "Bot", "Not", "And", "Or", "Some", "All",
		"Sub", "Eq", "Dis", "Role", "Is", "Rel":
		return true
	}
	return false
}

func Tokens(b []byte) ([]Token, int) {
	if len(b) > MaxText {
		return nil, 0
	}
	var list []Token
	bad := -1
reading:
	for at, piece := range pieces(b) {
		switch kind := pieceKind(piece); kind {
		case TkOpen, TkClose:
			list = append(list, Token{Kind: kind, At: at})
		case TkUpper, TkLower:
			list = append(list, Token{Kind: kind, At: at, Text: bytes.Clone(piece)})
		default:
			list, bad = nil, at
			break reading
		}
	}
	return list, bad
}

func TokenText(l []Token) []byte {
	if len(l) > MaxText {
		return nil
	}
	var out []byte
	for i, t := range l {
		piece := tokenPiece(t)
		if len(piece) == 0 {
			return nil
		}
		if i > 0 {
			out = append(out, ' ')
		}
		out = append(out, piece...)
	}
	return out
}

func nameLong(b []byte) bool {
	return len(b) >= 1 && len(b) <= MaxName
}

func isUpper(c byte) bool {
	return c >= 'A' && c <= 'Z'
}

func isLower(c byte) bool {
	return c >= 'a' && c <= 'z'
}

func allLower(b []byte) bool {
	for _, c := range b {
		if !isLower(c) {
			return false
		}
	}
	return true
}

// isBlank leaves tabs and other white space out: the document knows blanks and bytes 10 alone.
func isBlank(c byte) bool {
	return c == ' ' || c == '\n'
}

func isBracket(c byte) bool {
	return c == '(' || c == ')'
}

// pieces tells where each bracket or word of b begins, and its bytes, well formed or not:
// who ranges over it stops at the first that is not.
func pieces(b []byte) iter.Seq2[int, []byte] {
	return func(yield func(int, []byte) bool) {
		for at := 0; at < len(b); {
			end := pieceEnd(b, at)
			if !isBlank(b[at]) && !yield(at, b[at:end]) {
				return
			}
			at = end
		}
	}
}

// pieceEnd stops ahead of a capital, so that words need no blank between: AB are two.
func pieceEnd(b []byte, at int) int {
	end := at + 1
	if isBlank(b[at]) || isBracket(b[at]) {
		return end
	}
	for end < len(b) && isLower(b[end]) {
		end++
	}
	return end
}

// pieceKind is 0, which is no kind, for what is neither bracket nor word.
func pieceKind(piece []byte) int {
	switch {
	case UpperOk(piece):
		return TkUpper
	case LowerOk(piece):
		return TkLower
	case string(piece) == "(":
		return TkOpen
	case string(piece) == ")":
		return TkClose
	}
	return 0
}

// tokenPiece is empty, as no piece is, for a token that Tokens could not have answered.
func tokenPiece(t Token) []byte {
	switch t.Kind {
	case TkUpper:
		if UpperOk(t.Text) {
			return t.Text
		}
	case TkLower:
		if LowerOk(t.Text) {
			return t.Text
		}
	case TkOpen:
		if len(t.Text) == 0 {
			return []byte("(")
		}
	case TkClose:
		if len(t.Text) == 0 {
			return []byte(")")
		}
	}
	return nil
}
