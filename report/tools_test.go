package report_test

import (
	"fmt"
	"strings"
	"testing"

	"plumbline/api"
	"plumbline/fcheck"
	"plumbline/solve"
	"plumbline/state"
)

func unit(t *testing.T, text string) *fcheck.Unit {
	t.Helper()
	u, e := fcheck.Read(text)
	if e != api.OK {
		t.Fatalf("%s: %d", text, e)
	}
	return u
}

func solved(t *testing.T, u *fcheck.Unit, o api.Options) solve.Answer {
	t.Helper()
	a, e := solve.Solve(u, o)
	if e != api.OK {
		t.Fatalf("%v: %d", o, e)
	}
	return a
}

// lines is a text of these lines.
func lines(l ...string) string {
	return strings.Join(l, "\n") + "\n"
}

// words are those of the traps, in the order of their numbers.
var words = []string{"", "nan", "inf", "conv", "over", "zero", "index"}

// modelled is the text of an answer, worked out once more by the library's means.
func modelled(u *fcheck.Unit, a solve.Answer) string {
	var l []string
	for n, s := range a.Ahead {
		l = append(l, fmt.Sprintf("point %d: %s", n, modelledState(u, s)))
	}
	l = append(l, "end: "+modelledState(u, a.End))
	for _, x := range a.Alarms {
		if x.Trap > 0 && int(x.Trap) < len(words) {
			l = append(l, fmt.Sprintf("alarm %d %s", x.Point, words[x.Trap]))
		}
	}
	if a.Tired {
		l = append(l, "tired")
	}
	if a.Alarms == nil {
		return lines(append(l, "safe")...)
	}
	return lines(append(l, "unsafe")...)
}

func modelledState(u *fcheck.Unit, s *state.State) string {
	if s == nil || s.Bottom() {
		return "unreached"
	}
	text := ""
	for v, d := range u.Vars() {
		i, f := s.Int(v), s.Float(v)
		switch d.Type {
		case api.IntType:
			text += fmt.Sprintf(" %s=%d..%d", d.Name, i.Lo, i.Hi)
		case api.FloatType:
			text += fmt.Sprintf(" %s=%08x..%08x", d.Name, f.Lo, f.Hi)
		case api.DoubleType:
			text += fmt.Sprintf(" %s=%016x..%016x", d.Name, f.Lo, f.Hi)
		}
	}
	return strings.TrimPrefix(text, " ")
}

// dice are numbers that look like chance but are always the same.
type dice uint64

func (d *dice) next() uint64 {
	*d ^= *d << 13
	*d ^= *d >> 7
	*d ^= *d << 17
	return uint64(*d) * 0x2545f4914f6cdd1d
}

func (d *dice) below(n int) int { return int(d.next() >> 33 % uint64(n)) }

func pick[T any](d *dice, l ...T) T { return l[d.below(len(l))] }

const declared = "int i; float f; double d; int j; double a[3]; int b[2]; float c[1]; "

// statement is one of each kind, with others in it while deep is above 0; some trap always, some never.
func (d *dice) statement(deep int) string {
	if deep > 0 && d.below(2) == 0 {
		head := pick(d, "while (i < 3)", "while (d < 4.0)", "while (0 == 0)", "if (i > j)", "if (f < float(0.5))", "if (1 / j > 0)")
		return head + " { " + d.block(deep-1) + "} "
	}
	return pick(d,
		"i = i + 1; ", "j = i - 1; ", "j = -2147483647 - i; ", "i = 5 / j; ", "b[i] = j; ", "j = b[1]; ", "read i in [-2, 3]; ", "read j in [0, 2147483647]; ",
		"d = d + 0.1; ", "d = 1.0 / d; ", "d = sqrt(d); ", "a[j] = d; ", "d = a[0] * 3.0; ", "read d in [-1.5, 2.5]; ", "i = int(d); ",
		"f = float(d); ", "f = f * f; ", "c[0] = f; ", "read f in [0.1, 0.2]; ", "d = double(f) - d; ",
	)
}

func (d *dice) block(deep int) string {
	text := ""
	for range d.below(4) {
		text += d.statement(deep)
	}
	return text
}
