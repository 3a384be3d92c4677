package impl

import (
	"strconv"
	"strings"
	"sync"
)

const (
	TokName   = 0
	TokNumber = 1
	TokSign   = 2
	MaxText   = 2000
)

const (
	maxNameLength = 8
	maxDigits     = 9
)

type Token struct {
	Kind int
	Text string
	N    int
	Line int
}

// wordBook lives no longer than the call that asks it, since nothing is kept
// from one call to another.
type wordBook struct {
	once  sync.Once
	words map[string]struct{}
}

func (b *wordBook) fill() {
	b.words = map[string]struct{}{
		"let": {}, "in": {}, "if": {}, "then": {},
		"else": {}, "case": {}, "of": {}, "par": {},
	}
}

func (b *wordBook) isWord(s string) bool {
	b.once.Do(b.fill)
	_, found := b.words[s]
	return found
}

func (b *wordBook) isName(s string) bool {
	if len(s) < 1 || len(s) > maxNameLength || !isLetter(s[0]) {
		return false
	}
	return nameLength(s) == len(s) && !b.isWord(s)
}

func IsWord(s string) bool {
	var book wordBook
	return book.isWord(s)
}

func NameOk(s string) bool {
	var book wordBook
	return book.isName(s)
}

func Lex(s string) ([]Token, int) {
	if len(s) > MaxText {
		return nil, 1
	}
	var book wordBook
	var list []Token
	line := 1
	for at := 0; at < len(s); {
		if s[at] == ' ' || s[at] == '\n' {
			if s[at] == '\n' {
				line++
			}
			at++
			continue
		}
		word, length := firstWord(&book, s[at:])
		if length == 0 {
			return nil, line
		}
		word.Line = line
		list = append(list, word)
		at += length
	}
	return list, 0
}

// firstWord tells the word that begins s, which is not empty, and its length;
// length 0 for none.
func firstWord(book *wordBook, s string) (Token, int) {
	switch {
	case isLetter(s[0]):
		return letterWord(book, s)
	case isDigit(s[0]):
		return numberWord(s)
	}
	return signWord(s)
}

func letterWord(book *wordBook, s string) (Token, int) {
	length := nameLength(s)
	// A clone, since an answer shares no memory with an argument.
	text := strings.Clone(s[:length])
	switch {
	case book.isWord(text):
		return Token{Kind: TokSign, Text: text}, length
	case book.isName(text):
		return Token{Kind: TokName, Text: text}, length
	}
	return Token{}, 0
}

func numberWord(s string) (Token, int) {
	length := digitsLength(s)
	n := digitsValue(s[:length])
	if n < 0 {
		return Token{}, 0
	}
	return Token{Kind: TokNumber, N: n}, length
}

func signWord(s string) (Token, int) {
	// The longer one first, since some signs begin others.
	for _, length := range [2]int{2, 1} {
		if length <= len(s) && isSign(s[:length]) {
			return Token{Kind: TokSign, Text: strings.Clone(s[:length])}, length
		}
	}
	return Token{}, 0
}

func isSign(s string) bool {
	switch s {
	case "\\", ".", "=", ";", ":", "[]", "->", "|", "==", "<", "+", "-", "*", "(", ")":
		return true
	}
	return false
}

func isLetter(c byte) bool { return 'a' <= c && c <= 'z' }

func isDigit(c byte) bool { return '0' <= c && c <= '9' }

// nameLength tells how many letters and digits s begins with.
func nameLength(s string) int {
	length := 0
	for length < len(s) && (isLetter(s[length]) || isDigit(s[length])) {
		length++
	}
	return length
}

// digitsLength tells how many digits s begins with.
func digitsLength(s string) int {
	length := 0
	for length < len(s) && isDigit(s[length]) {
		length++
	}
	return length
}

// digitsValue tells the number of 1 .. maxDigits digits, noughts ahead
// allowed; -1 for another text.
func digitsValue(s string) int {
	if len(s) < 1 || len(s) > maxDigits || digitsLength(s) != len(s) {
		return -1
	}
	n := 0
	for i := 0; i < len(s); i++ {
		n = n*10 + int(s[i]-'0')
	}
	return n
}

func DecText(n int) string { return strconv.Itoa(n) }

func ReadDec(s string) int {
	n := digitsValue(s)
	// Digits with noughts ahead have a value, but are no number's DecText.
	if n < 0 || DecText(n) != s {
		return -1
	}
	return n
}

func Words(s string) []string {
	// A clone, since an answer shares no memory with an argument.
	return strings.Split(strings.Clone(s), " ")
}
