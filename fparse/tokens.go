package fparse

import "plumbline/api"

// tokens are what is left of a text. The last one is of no kind, and stands where the text ends: it is never taken.
type tokens struct {
	list []api.Lex
}

func tokensOf(list []api.Lex, end int) tokens {
	return tokens{list: append(list, api.Lex{At: end})}
}

func (t *tokens) next() api.Lex { return t.list[0] }

func (t *tokens) ended() bool { return t.next().Kind == api.LexNone }

// take is the next token's text, if it is of one of these kinds; else all is given up.
func (t *tokens) take(kinds ...api.LexKind) string {
	next := t.next()
	for _, k := range kinds {
		if next.Kind == k {
			t.list = t.list[1:]
			return next.Text
		}
	}
	t.giveUp()
	return ""
}

// skip tells whether the next token is that sign or word, and takes it then. No name and no number is spelt like one.
func (t *tokens) skip(text string) bool {
	if t.next().Text != text {
		return false
	}
	t.list = t.list[1:]
	return true
}

func (t *tokens) want(text string) {
	if !t.skip(text) {
		t.giveUp()
	}
}

// giveUp is for a next token that no program goes on with.
func (t *tokens) giveUp() {
	panic(fault{errno: api.ErrForm, at: t.next().At})
}
