package flex_test

import (
	"regexp"
	"slices"
	"strings"
	"testing"

	"plumbline/api"
	"plumbline/flex"
)

// What a text's tokens are is worked out here once more, by patterns.

var (
	blanks  = regexp.MustCompile(`^[\t\n\r ]+`)
	naming  = regexp.MustCompile(`^[A-Za-z][A-Za-z0-9_]*`)
	decimal = regexp.MustCompile(`^[0-9]+\.[0-9]+`)
	digits  = regexp.MustCompile(`^[0-9]+`)
	marks   = regexp.MustCompile(`^(==|!=|<=|>=|&&|\|\||[-+*/()\[\]{};,=<>!])`)
)

func leads(s string) (api.LexKind, string) {
	if text := naming.FindString(s); text != "" {
		switch {
		case slices.Contains(words, text):
			return api.LexWord, text
		case len(text) > 16:
			return api.LexNone, ""
		}
		return api.LexName, text
	}
	for _, c := range []struct {
		form *regexp.Regexp
		kind api.LexKind
	}{{decimal, api.LexReal}, {digits, api.LexInt}, {marks, api.LexSign}} {
		if text := c.form.FindString(s); text != "" {
			return c.kind, text
		}
	}
	return api.LexNone, ""
}

func scanned(s string) ([]api.Lex, api.Errno, int) {
	var l []api.Lex
	for at := 0; at < len(s); {
		if n := len(blanks.FindString(s[at:])); n > 0 {
			at += n
			continue
		}
		kind, text := leads(s[at:])
		if kind == api.LexNone {
			return nil, api.ErrChar, at
		}
		l = append(l, api.Lex{Kind: kind, Text: text, At: at})
		at += len(text)
	}
	return l, api.OK, 0
}

// dice are numbers that look like chance but are always the same.
type dice uint64

func (d *dice) below(n int) int {
	*d ^= *d << 13
	*d ^= *d >> 7
	*d ^= *d << 17
	return int(uint64(*d) * 0x2545f4914f6cdd1d >> 33 % uint64(n))
}

// pieces are what texts are put together of: whole tokens, and what comes near to some.
func pieces() []string {
	l := []string{"x", "a1", "b_2", "i", "f", "n", "t", name16, "0", "1", "42", "1.5", "0.25", "_", " ", " ", "\t", "\n", "\r"}
	return append(append(l, words...), signs...)
}

func someText(d *dice, from []string) string {
	var b strings.Builder
	for range d.below(12) {
		b.WriteString(from[d.below(len(from))])
	}
	return b.String()
}

// P4.1 of many texts, with and without what can be no token.
func TestScanAsThePatterns(t *testing.T) {
	d := dice(88172645463325252)
	right := pieces()
	wrong := append(pieces(), ".", "&", "|", "$", "\xff", "é", "\x00")
	for i := range 60000 {
		s := someText(&d, right)
		if i%2 == 0 {
			s = someText(&d, wrong)
		}
		l, e, at := flex.Scan(s)
		wantL, wantE, wantAt := scanned(s)
		if !slices.Equal(l, wantL) || e != wantE || at != wantAt {
			t.Fatalf("Scan(%q) = %v, %d, %d; want %v, %d, %d", s, l, e, at, wantL, wantE, wantAt)
		}
	}
}

func sameTokens(a, b []api.Lex) bool {
	return slices.EqualFunc(a, b, func(x, y api.Lex) bool { return x.Kind == y.Kind && x.Text == y.Text })
}

// P4.3: Scan of Join of what Scan told.
func TestThereAndBack(t *testing.T) {
	d := dice(362436069362436069)
	for range 30000 {
		s := someText(&d, pieces())
		l, e, _ := flex.Scan(s)
		if e != api.OK {
			continue
		}
		again, e, at := flex.Scan(flex.Join(l...))
		if e != api.OK || at != 0 || !sameTokens(l, again) {
			t.Fatalf("of %q: %q, %d, %d", s, flex.Join(l...), e, at)
		}
	}
}

// P4.4: tokens with any blanks between, and with none where the two would not begin with a longer one.
func TestBlanksPlayNoPart(t *testing.T) {
	d := dice(521288629521288629)
	tokens := append(append([]string{"x", "a1", "b_2", name16, "0", "42", "1.5"}, words...), signs...)
	for range 30000 {
		var want []string
		var b strings.Builder
		for range d.below(12) {
			next := tokens[d.below(len(tokens))]
			if len(want) > 0 {
				last := want[len(want)-1]
				_, text := leads(last + next)
				if text != last || d.below(2) == 0 {
					b.WriteString([]string{" ", "\t", "\r\n", " \n ", "\r"}[d.below(5)])
				}
			}
			b.WriteString(next)
			want = append(want, next)
		}
		l, e, at := flex.Scan(b.String())
		if e != api.OK || at != 0 || !slices.Equal(texts(l), want) {
			t.Fatalf("Scan(%q) = %v, %d, %d", b.String(), l, e, at)
		}
	}
}

// IsName and IsWord tell the same as Scan does of a text that is one token.
func TestNamesAreTokens(t *testing.T) {
	d := dice(916191069916191069)
	from := append(pieces(), ".", "$", "\xff", "é")
	for range 30000 {
		s := someText(&d, from)
		l, e, _ := flex.Scan(s)
		one := e == api.OK && len(l) == 1 && l[0].Text == s
		if flex.IsName(s) != (one && l[0].Kind == api.LexName) || flex.IsWord(s) != (one && l[0].Kind == api.LexWord) {
			t.Fatalf("%q: %v, %v, %v", s, flex.IsName(s), flex.IsWord(s), l)
		}
	}
}
