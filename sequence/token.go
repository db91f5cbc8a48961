package sequence

import (
	"slices"
	"strings"

	"farhail/api"
)

// kind is what a token is.
type kind int

// The kinds.
const (
	stray   kind = iota // it can stand nowhere
	ending              // the end of the text
	fixed               // a reserved word, or a sign
	naming              // a name
	counted             // a number
)

// token that begins at a byte: the text of what is fixed and of names, the number of what is counted.
type token struct {
	kind kind
	at   int
	text string
	n    int
}

// tokenAt: the first token from a byte on, and the byte behind it.
func tokenAt(text string, from int) (token, int) {
	at := pastBlanks(text, from)
	if at == len(text) {
		return token{kind: ending, at: at}, at
	}
	switch c := text[at]; {
	case letter(c):
		behind := runEnd(text, at, inWord)
		return wordToken(text[at:behind], at), behind
	case digit(c):
		behind := runEnd(text, at, digit)
		return numberToken(text[at:behind], at), behind
	}
	if s := signOf(text[at:]); s != "" {
		return token{kind: fixed, at: at, text: s}, at + len(s)
	}
	return token{kind: stray, at: at}, at + 1
}

// pastBlanks: where no blank and no comment stands any more.
func pastBlanks(text string, at int) int {
	for at < len(text) {
		switch c := text[at]; {
		case c == '#':
			at = runEnd(text, at, inLine)
		case c == ' ' || c == '\t' || !inLine(c):
			at++
		default:
			return at
		}
	}
	return at
}

// runEnd: where the longest run of such bytes ends.
func runEnd(text string, at int, such func(byte) bool) int {
	for at < len(text) && such(text[at]) {
		at++
	}
	return at
}

func wordToken(word string, at int) token {
	switch {
	case reserved(word):
		return token{kind: fixed, at: at, text: word}
	case isName(word):
		return token{kind: naming, at: at, text: word}
	}
	return token{kind: stray, at: at}
}

func numberToken(digits string, at int) token {
	if len(digits) > api.MaxDigits {
		return token{kind: stray, at: at}
	}
	n := 0
	for _, c := range []byte(digits) {
		n = n*10 + int(c-'0')
	}
	return token{kind: counted, at: at, n: n}
}

// signOf: the longest sign that a text begins with; nothing, if there is none.
func signOf(text string) string {
	for _, s := range []string{":=", "<=", ">=", "<>"} {
		if strings.HasPrefix(text, s) {
			return s
		}
	}
	if strings.IndexByte("<>=+-*(),:;", text[0]) < 0 {
		return ""
	}
	return text[:1]
}

func reserved(word string) bool {
	switch word {
	case "SEQUENCE", "LEVEL", "LIMIT", "NEEDS", "WAIT", "SEND", "IF", "THEN", "ELSE", "END",
		"REPEAT", "UNTIL", "WITHIN", "CALL", "START", "STOP", "AND", "OR", "NOT":
		return true
	}
	return false
}

// isName: also of texts that are no words at all, since the variables' names come from outside.
func isName(s string) bool {
	return s != "" && len(s) <= api.MaxName && small(s[0]) && !slices.ContainsFunc([]byte(s), outsideName)
}

func outsideName(c byte) bool { return !inWord(c) || great(c) }

func inWord(c byte) bool { return letter(c) || digit(c) || c == '_' }

func letter(c byte) bool { return small(c) || great(c) }

func small(c byte) bool { return 'a' <= c && c <= 'z' }

func great(c byte) bool { return 'A' <= c && c <= 'Z' }

func digit(c byte) bool { return '0' <= c && c <= '9' }

// inLine: bytes that end no line.
func inLine(c byte) bool { return c != '\n' && c != '\r' }
