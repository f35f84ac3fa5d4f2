package analyze_test

import (
	"slices"
	"strings"
	"testing"

	"plumbline/analyze"
	"plumbline/api"
	"plumbline/fcheck"
	"plumbline/fint"
	"plumbline/flex"
	"plumbline/fparse"
	"plumbline/report"
	"plumbline/solve"
)

func unit(t *testing.T, text string) *fcheck.Unit {
	t.Helper()
	u, e := fcheck.Read(text)
	if e != api.OK {
		t.Fatalf("%s: %d", text, e)
	}
	return u
}

// P16.2 (E4): of a text that is Safe no Trial tells a trap; each trap that one tells is an alarm of the report, and what its run sees lies in what is told.
func TestSafeTextsNeverTrap(t *testing.T) {
	d := dice(161616)
	var safe, unsafe, trapped, ended, open int
	for range 2000 {
		p, o := d.program(), d.options()
		r := readBack(t, analyzed(t, p.text, o))
		if analyze.Safe([]byte(p.text), o) != r.safe || r.safe != (len(r.alarms) == 0) {
			t.Fatalf("%s %v: Safe is not what the report says", p.text, o)
		}
		for range 6 {
			script := d.script(p, 120)
			trap, at, e := analyze.Trial([]byte(p.text), script, 120)
			switch {
			case e == api.ErrSteps:
				open++
				continue
			case e != api.OK:
				t.Fatalf("%s %v: %d", p.text, script, e)
			case trap == api.NoTrap:
				ended++
			default:
				trapped++
			}
			if trap != api.NoTrap && !slices.Contains(r.alarms, api.Alarm{Point: at, Trap: trap}) {
				t.Fatalf("%s %v, read %v: %d at %d is none of %v", p.text, o, script[:len(p.reads)], trap, at, r.alarms)
			}
			checkSeen(t, p.text, r, script, 120)
			if r.safe {
				safe++
			} else {
				unsafe++
			}
		}
	}
	if safe < 500 || unsafe < 500 || trapped < 500 || ended < 500 || open < 500 {
		t.Error("too few of a kind:", safe, unsafe, trapped, ended, open)
	}
}

// checkSeen holds what a run sees against what is told of its points, and of its end.
func checkSeen(t *testing.T, text string, r told, script []fint.Value, steps int) {
	t.Helper()
	u := unit(t, text)
	result, e := fint.Run(u, script, steps)
	if e != api.OK || len(r.points) != u.Points() {
		t.Fatal(text, e, len(r.points))
	}
	for _, seen := range result.Seen {
		if !r.points[seen.Point].hasCells(u.Vars(), seen.Cells) {
			t.Fatalf("%s: ahead of %d %v is not in %v", text, seen.Point, seen.Cells, r.points[seen.Point])
		}
	}
	if result.Trap == api.NoTrap && !r.end.hasCells(u.Vars(), result.Cells) {
		t.Fatalf("%s: at the end %v is not in %v", text, result.Cells, r.end)
	}
}

// Programs that trap only with some scripts are not safe, those that are guarded are.
func TestGuards(t *testing.T) {
	for _, c := range []struct {
		text   string
		safe   bool
		script []fint.Value // with which one that is not safe traps
	}{
		{"int i; int j; read i in [-5, 5]; j = 10 / i;", false, []fint.Value{intValue(0)}},
		{"int i; int j; read i in [-5, 5]; if (i > 0) { j = 10 / i; }", true, nil},
		{"int i; int a[4]; read i in [0, 4]; a[i] = 1;", false, []fint.Value{intValue(4)}},
		{"int i; int a[4]; read i in [0, 4]; if (i < 4) { a[i] = 1; }", true, nil},
		{"int i; int a[4]; read i in [-1, 3]; a[0] = a[i];", false, []fint.Value{intValue(-1)}},
		{"double d; read d in [-1.0, 1.0]; d = sqrt(d);", false, []fint.Value{doubleValue(-0.5)}},
		{"double d; read d in [-1.0, 1.0]; if (d >= 0.0) { d = sqrt(d); } else { d = sqrt(-d); }", true, nil},
		{"float f; double d; read d in [0.0, 10000000000000000.0]; f = float(d); f = f * f; f = f * f;", false, []fint.Value{doubleValue(1e16)}},
		{"int i; read i in [0, 2147483647]; i = i + 1;", false, []fint.Value{intValue(api.MaxInt)}},
		{"int i; read i in [0, 2147483647]; if (i != 2147483647) { i = i + 1; }", true, nil},
		{"int i; read i in [-2147483647, 0]; i = i - 1; i = -i;", false, []fint.Value{intValue(-api.MaxInt)}},
		{"int i; double d; read d in [0.0, 2147483648.0]; i = int(d);", false, []fint.Value{doubleValue(1 << 31)}},
		{"int i; double d; read d in [0.0, 2147483647.5]; i = int(d);", true, nil},
		{"int i; int j; int a[8]; read j in [0, 8]; while (i < j) { a[i] = 1; i = i + 1; }", true, nil},
	} {
		for _, o := range []api.Options{usual, {Budget: 1000}, {Delay: 9, Budget: api.MaxBudget, Thresholds: []int64{0, 8}}} {
			if analyze.Safe([]byte(c.text), o) != c.safe {
				t.Errorf("%s %v: Safe is not %v", c.text, o, c.safe)
			}
		}
		if c.safe {
			continue
		}
		if trap, _, e := analyze.Trial([]byte(c.text), c.script, 50); trap == api.NoTrap || e != api.OK {
			t.Errorf("%s %v: %d, %d", c.text, c.script, trap, e)
		}
	}
}

// E6 (floor): programs of assignments alone, with inputs of one value each, are told exactly, and have an alarm just if they trap.
func TestFloor(t *testing.T) {
	d := dice(666)
	ended, trapped := 0, 0
	for range 4000 {
		p, o := d.straight(), d.options()
		r, u, script := readBack(t, analyzed(t, p.text, o)), unit(t, p.text), d.script(p, 0)
		result, e := fint.Run(u, script, 50)
		if e != api.OK {
			t.Fatal(p.text, e)
		}
		var want []api.Alarm
		if result.Trap != api.NoTrap {
			want = []api.Alarm{{Point: result.Point, Trap: result.Trap}}
			trapped++
		} else {
			ended++
		}
		checkSeen(t, p.text, r, script, 50)
		if !slices.Equal(r.alarms, want) || (r.end == nil) != (want != nil) {
			t.Fatalf("%s: %v, want %v", p.text, r.alarms, want)
		}
		for at, k := range append(slices.Clone(r.points), r.end) {
			for name, ends := range k {
				if ends[0] != ends[1] {
					t.Fatalf("%s: at %d %s is %v", p.text, at, name, ends)
				}
			}
			if at < len(r.points) && (k == nil) != (at >= len(result.Seen)) {
				t.Fatalf("%s: at %d it is %v, but %d are seen", p.text, at, k, len(result.Seen))
			}
		}
	}
	if ended < 500 || trapped < 500 {
		t.Error("too few that end, or that trap:", ended, trapped)
	}
}

// checkAnswered holds what is answered of a text against what the layers ahead of this one answer; it tells whether it is a program.
func checkAnswered(t *testing.T, text string, o api.Options) bool {
	t.Helper()
	s, e := analyze.Analyze([]byte(text), o)
	isSafe := analyze.Safe([]byte(text), o)
	trap, at, errno := analyze.Trial([]byte(text), nil, 30)
	u, want := fcheck.Read(text)
	if want != api.OK {
		if s != "" || e != want || isSafe || trap != api.NoTrap || at != 0 || errno != want {
			t.Fatalf("%q: %q, %d, %v, %d, %d, %d; want %d", text, s, e, isSafe, trap, at, errno, want)
		}
		return false
	}
	a, want := solve.Solve(u, o)
	if e != want || e == api.OK && s != report.Text(u, a) || e != api.OK && s != "" || isSafe != (e == api.OK && len(a.Alarms) == 0) {
		t.Fatalf("%q %v: %q, %d, %v", text, o, s, e, isSafe)
	}
	result, want := fint.Run(u, nil, 30)
	if errno != want || trap != result.Trap || at != result.Point {
		t.Fatalf("%q: %d, %d, %d", text, trap, at, errno)
	}
	return true
}

// P16.3 (E5): texts of any bytes, of pieces of programs, and of programs with some bytes changed are answered.
func TestAnyBytes(t *testing.T) {
	for c := range 256 {
		s, e := analyze.Analyze([]byte{byte(c)}, usual)
		want := api.ErrChar
		switch {
		case strings.IndexByte("\t\n\r ", byte(c)) >= 0:
			want = api.OK
		case strings.IndexByte("+-*/()[]{};,=<>!", byte(c)) >= 0, c >= '0' && c <= '9', c >= 'a' && c <= 'z', c >= 'A' && c <= 'Z':
			want = api.ErrForm
		}
		if e != want || (s == "end: \nsafe\n") != (want == api.OK) || s != "" && e != api.OK {
			t.Errorf("the byte %d: %q, %d; want %d", c, s, e, want)
		}
		checkAnswered(t, string([]byte{byte(c)}), usual)
	}
	d := dice(163163)
	pieces := strings.Fields("int float double if else while read in sqrt abs i f d a b + - * / ( ) [ ] { } ; , = == != < <= > >= && || ! 0 1 1.5 2147483648 # \x80")
	for range 4000 {
		var any, words []byte
		for range d.below(60) {
			any = append(any, byte(d.next()>>20))
			words = append(append(words, pick(&d, pieces...)...), ' ')
		}
		checkAnswered(t, string(any), d.options())
		checkAnswered(t, string(words), d.options())
		checkAnswered(t, "int i;float f;double d;int a[2];double b[1];"+string(words), d.options())
	}
}

func TestChangedPrograms(t *testing.T) {
	d := dice(361361)
	programs, others := 0, 0
	for range 3000 {
		text := []byte(d.program().text)
		for range 1 + d.below(3) {
			at := d.below(len(text))
			switch d.below(4) {
			case 0:
				text = slices.Delete(text, at, at+1)
			case 1:
				text = slices.Insert(text, at, byte(d.next()>>20))
			case 2:
				text[at] = pick(&d, []byte("ijnfgdeabc0123456789+-*/<>=!&|()[]{};., ")...)
			case 3:
				text = slices.Insert(text, at, text[d.below(len(text))])
			}
		}
		o := d.options()
		if d.below(8) == 0 {
			o.Delay = pick(&d, -1, 101)
		}
		if checkAnswered(t, string(text), o) {
			programs++
		} else {
			others++
		}
	}
	if programs < 100 || others < 100 {
		t.Error("too few of a kind:", programs, others)
	}
	// A program that ends too early, at each place.
	whole := "int i;double d;int a[3];read d in[-1.0,2.5];while(i<3&&d>0.0){a[i]=int(d)+1;i=i+1;if(!(d<1.0)){d=sqrt(d)-1.5;}else{d=abs(d);}}"
	for n := range len(whole) + 1 {
		checkAnswered(t, whole[:n], usual)
		checkAnswered(t, whole[n:], usual)
	}
}

// P16.4 (E3): a program that is printed, and one with other blanks, has the same report, with each of the options; others in between change nothing.
func TestSameProgramSameReport(t *testing.T) {
	d := dice(164164)
	for range 500 {
		text, o := d.program().text, d.options()
		want := analyzed(t, text, o)
		printed, e := fparse.Print(unit(t, text).Program())
		if e != api.OK {
			t.Fatal(text, e)
		}
		analyzed(t, d.program().text, d.options())
		for _, same := range []string{text, printed, d.spaced(t, text), d.spaced(t, printed), printed + "\n", "\r\n\t " + text + "  "} {
			if got := analyzed(t, same, o); got != want {
				t.Fatalf("%s %v:\n%sof %s\n%s", text, o, want, same, got)
			}
			if analyze.Safe([]byte(same), o) != strings.HasSuffix(want, "\nsafe\n") {
				t.Fatalf("%s %v: Safe is otherwise of %s", text, o, same)
			}
		}
	}
	// ( ) that say nothing, an else that is empty, an if that has none.
	for _, same := range [][2]string{
		{"int i; i = 1 + 2 * 3;", "int i; i = ((1) + (2 * 3));"},
		{"int i; if (i == 0) { i = 1; }", "int i; if ((i == 0)) { i = 1; } else { }"},
		{"double d; d = -d - 1.0; d = sqrt(d);", "double d; d = (-(d)) - 1.0; d = sqrt((d));"},
	} {
		if a, b := analyzed(t, same[0], usual), analyzed(t, same[1], usual); a != b {
			t.Errorf("%s:\n%s%s:\n%s", same[0], a, same[1], b)
		}
	}
}

// spaced is the tokens of a text with some blanks between each two, ahead and behind; as many as a text may have.
func (d *dice) spaced(t *testing.T, text string) string {
	t.Helper()
	l, e, _ := flex.Scan(text)
	if e != api.OK {
		t.Fatal(text, e)
	}
	out := ""
	for _, x := range l {
		out += d.blanks() + x.Text
	}
	out += d.blanks()
	if len(out) > api.MaxText {
		return text
	}
	return out
}

func (d *dice) blanks() string {
	out := pick(d, " ", "\t", "\n", "\r")
	for d.below(3) == 0 {
		out += pick(d, " ", "\t", "\n", "\r")
	}
	return out
}
