package flex

import "plumbline/api"

// kinds is a set of kinds of characters.
type kinds int

const (
	blank kinds = 1 << iota
	letter
	digit
	under
	other
)

func kindOf(r rune) kinds {
	switch {
	case r == 9 || r == 10 || r == 13 || r == 32:
		return blank
	case r >= 'a' && r <= 'z' || r >= 'A' && r <= 'Z':
		return letter
	case r >= '0' && r <= '9':
		return digit
	case r == '_':
		return under
	}
	return other
}

// countOf is how many bytes of s hold the characters of these kinds that it begins with.
func countOf(s string, these kinds) int {
	for at, r := range s {
		if kindOf(r)&these == 0 {
			return at
		}
	}
	return len(s)
}

// longest is the kind and the length of the longest token that s begins with; LexNone and 0, if it begins with none.
func longest(s string) (api.LexKind, int) {
	if countOf(s, letter) > 0 {
		return wordOrName(s)
	}
	if countOf(s, digit) > 0 {
		return intOrReal(s)
	}
	if n := signOf(s); n > 0 {
		return api.LexSign, n
	}
	return api.LexNone, 0
}

// wordOrName is of an s that begins with a letter.
func wordOrName(s string) (api.LexKind, int) {
	n := countOf(s, letter|digit|under)
	switch {
	case IsWord(s[:n]):
		return api.LexWord, n
	case IsName(s[:n]):
		return api.LexName, n
	}
	return api.LexNone, 0
}

// intOrReal is of an s that begins with a digit.
func intOrReal(s string) (api.LexKind, int) {
	n := countOf(s, digit)
	if n < len(s) && s[n] == '.' {
		if places := countOf(s[n+1:], digit); places > 0 {
			return api.LexReal, n + 1 + places
		}
	}
	return api.LexInt, n
}

// signOf is the length of the longest sign that s begins with, 0 if it begins with none.
func signOf(s string) int {
	if len(s) >= 2 {
		switch s[:2] {
		case "==", "!=", "<=", ">=", "&&", "||":
			return 2
		}
	}
	if len(s) >= 1 {
		switch s[0] {
		case '+', '-', '*', '/', '(', ')', '[', ']', '{', '}', ';', ',', '=', '<', '>', '!':
			return 1
		}
	}
	return 0
}
