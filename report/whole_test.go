package report_test

import (
	"strings"
	"testing"

	"plumbline/api"
	"plumbline/report"
	"plumbline/solve"
	"plumbline/state"
)

// P15.1, P15.3, P15.4: of programs that are drawn and analyzed the text is as it is worked out once more, with as many lines as is said, and the last one says whether it is safe.
func TestAnalyzed(t *testing.T) {
	d := dice(151515)
	var safe, unsafe, tired, unreached int
	for range 3000 {
		text := declared + d.block(3)
		u := unit(t, text)
		a := solved(t, u, api.Options{Delay: d.below(3), Budget: pick(&d, 0, 5, 50, 2000)})
		got := report.Text(u, a)
		if want := modelled(u, a); got != want {
			t.Fatalf("%s:\n%swant\n%s", text, got, want)
		}
		many := u.Points() + len(a.Alarms) + 2
		if a.Tired {
			many++
			tired++
		}
		if report.Lines(got) != many {
			t.Fatalf("%s: %d lines, want %d:\n%s", text, report.Lines(got), many, got)
		}
		l := strings.Split(got, "\n")
		isSafe := l[len(l)-2] == "safe"
		if l[len(l)-1] != "" || isSafe != (len(a.Alarms) == 0) || isSafe != report.Sound(a) || !isSafe && l[len(l)-2] != "unsafe" {
			t.Fatalf("%s: with %v it ends with\n%s", text, a.Alarms, got)
		}
		if isSafe {
			safe++
		} else {
			unsafe++
		}
		if a.End.Bottom() {
			unreached++
		}
	}
	if safe < 300 || unsafe < 300 || tired < 300 || unreached < 300 {
		t.Error("too few of a kind:", safe, unsafe, tired, unreached)
	}
}

// P15.1: answers put together at will, also such as no program has.
func TestAnswersAtWill(t *testing.T) {
	d := dice(999)
	u := unit(t, declared+"i = 1; j = 2;")
	for range 3000 {
		a := solve.Answer{End: d.state(state.Top(u)), Tired: d.below(2) == 0, Steps: d.below(100)}
		for range d.below(5) {
			a.Ahead = append(a.Ahead, d.state(state.Top(u)))
		}
		for range d.below(5) {
			a.Alarms = append(a.Alarms, api.Alarm{Point: api.Point(d.below(300) - 20), Trap: api.Trap(d.below(12) - 3)})
		}
		if got, want := report.Text(u, a), modelled(u, a); got != want {
			t.Fatalf("%v:\n%swant\n%s", a, got, want)
		}
		if report.Sound(a) != (a.Alarms == nil) {
			t.Fatal(a)
		}
	}
}

// state is any of the program of top: nil, Bottom, or with ranges of any numbers.
func (d *dice) state(top *state.State) *state.State {
	switch d.below(6) {
	case 0:
		return nil
	case 1:
		return top.Kill()
	}
	s := top
	for v := range 7 {
		switch d.below(3) {
		case 0:
			n := int64(int32(d.next() >> 16))
			s = s.SetInt(v, api.IntRange{Lo: n, Hi: min(api.MaxInt, n+int64(d.below(1000)))}, false)
			// Of a Single the upper half must be 0, and both must be finite.
			bits := d.next() >> 34
			s = s.SetFloat(v, api.FloatRange{Lo: bits, Hi: bits + 1}, false)
		case 1:
			bits := d.next() >> 2
			s = s.SetFloat(v, api.FloatRange{Lo: bits | 1<<63, Hi: bits}, false)
		}
		if s.Bottom() {
			s = top
		}
	}
	return s
}
