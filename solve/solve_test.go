package solve_test

import (
	"math"
	"slices"
	"strings"
	"testing"

	"plumbline/api"
	"plumbline/fint"
	"plumbline/solve"
	"plumbline/state"
)

// enough is a budget that none of the small programs here comes to.
var enough = api.Options{Budget: api.MaxBudget}

func TestExamples(t *testing.T) {
	u := unit(t, "int i; while (i < 10) { i = i + 1; }")
	if a := solved(t, u, enough); len(a.Alarms) != 0 || a.End.Bottom() || a.End.Int(0).Lo < 10 {
		t.Error(a.Alarms, a.End.Int(0))
	}
	// Those of DOC.md.
	u = unit(t, "double x; read x in [0.0, 1.0]; x = 1.0 / (x + 1.0);")
	if a := solved(t, u, enough); len(a.Alarms) != 0 || a.Steps != 2 {
		t.Error(a.Alarms, a.Steps)
	}
	u = unit(t, "double x; read x in [0.0, 1.0]; x = 1.0 / x;")
	if a := solved(t, u, enough); !slices.Equal(a.Alarms, []api.Alarm{{Point: 1, Trap: api.TrapInf}}) {
		t.Error(a.Alarms)
	}
	u = unit(t, "int i; i = 1;")
	if a := solved(t, u, enough); a.Ahead[0].Int(0) != ints(0, 0) || a.End.Int(0) != ints(1, 1) || len(a.Alarms) != 0 {
		t.Error(a.Ahead[0].Int(0), a.End.Int(0), a.Alarms)
	}
}

// P14.1: ErrNil ahead of all else; ErrRange of each option that may not be, alone and together.
func TestOptions(t *testing.T) {
	u := unit(t, "int i; while (i < 10) { i = i + 1; }")
	many := func(n int) []int64 { return make([]int64, n) }
	for _, c := range []struct {
		options api.Options
		want    api.Errno
	}{
		{api.Options{}, api.OK}, {api.Options{Delay: 100}, api.OK}, {api.Options{Budget: api.MaxBudget}, api.OK}, {api.Options{Thresholds: many(64)}, api.OK}, {api.Options{Delay: 100, Budget: api.MaxBudget, Thresholds: many(64)}, api.OK}, {api.Options{Thresholds: []int64{}}, api.OK}, {api.Options{Thresholds: []int64{math.MinInt64, math.MaxInt64}, Budget: 9}, api.OK},
		{api.Options{Delay: -1}, api.ErrRange}, {api.Options{Delay: 101}, api.ErrRange}, {api.Options{Delay: math.MinInt}, api.ErrRange}, {api.Options{Delay: math.MaxInt}, api.ErrRange},
		{api.Options{Budget: -1}, api.ErrRange}, {api.Options{Budget: api.MaxBudget + 1}, api.ErrRange}, {api.Options{Budget: math.MinInt}, api.ErrRange}, {api.Options{Budget: math.MaxInt}, api.ErrRange},
		{api.Options{Thresholds: many(65)}, api.ErrRange}, {api.Options{Thresholds: many(5000)}, api.ErrRange},
		{api.Options{Delay: -1, Budget: -1, Thresholds: many(65)}, api.ErrRange}, {api.Options{Delay: 101, Budget: 5}, api.ErrRange}, {api.Options{Delay: 5, Budget: -1}, api.ErrRange}, {api.Options{Delay: 100, Budget: api.MaxBudget, Thresholds: many(65)}, api.ErrRange},
	} {
		if a, e := solve.Solve(nil, c.options); e != api.ErrNil || !isNothing(a) {
			t.Errorf("of nil, %v: %v, %d", c.options, a, e)
		}
		a, e := solve.Solve(u, c.options)
		if e != c.want || (e != api.OK) != isNothing(a) {
			t.Errorf("%v: %v, %d; want %d", c.options, a, e, c.want)
		}
		if e == api.OK {
			checkShape(t, u, c.options, a)
		}
	}
}

// P14.1: a program without statements ends as it begins.
func TestNoStatements(t *testing.T) {
	for _, text := range []string{"", "int i;", "double a[3]; float f; int i;"} {
		u := unit(t, text)
		for _, budget := range []int{0, 1, api.MaxBudget} {
			a := solved(t, u, api.Options{Budget: budget})
			if len(a.Ahead) != 0 || !a.End.Same(state.First(u)) || len(a.Alarms) != 0 || a.Steps != 0 {
				t.Errorf("%q: %v", text, a)
			}
		}
	}
}

// P14.1, P14.7: what is not reached is Bottom, and has no alarm; all else is not.
func TestReached(t *testing.T) {
	for _, c := range []struct {
		text   string
		want   string // of each point and of the end: + where it is reached
		alarms int
	}{
		{"int i; i = 1; i = 2;", "+++", 0}, {"int i; i = 1 / 0; i = 1 / 0;", "+--", 1}, {"int i; if (i == 0) { i = 1; } else { i = 1 / 0; }", "++-+", 0}, {"int i; if (i != 0) { i = 1 / 0; while (i > 0) { i = 1 / 0; } } i = 5;", "+---++", 0}, {"int i; if (1 / i == 1) { i = 1; } else { i = 2; } i = 3;", "+----", 1},
		{"while (0 == 0) { }", "+-", 0}, {"int i; while (0 == 0) { i = 1; } i = 1 / 0;", "++--", 0}, {"int i; while (i > 0) { i = 1 / 0; } i = 2;", "+-++", 0}, {"int i; while (i < 5) { i = i + 1; if (i > 9) { i = 1 / 0; } }", "+++-+", 0}, {"int i; while (1 / i > 0) { i = 1; } i = 2;", "+---", 1}, {"int i; while (i < 5) { i = 1 / 0; } i = 3;", "++--", 1},
		{"int i; while (0 == 0) { while (0 == 0) { } i = 1; }", "++--", 0}, {"int i; if (i == 0) { i = 1 / i; } else { } i = 2;", "++--", 1}, {"int a[2]; a[2] = 1; a[0] = 1;", "+--", 1}, {"int i; if (i == 0) { if (i == 1) { i = 1 / 0; } else { if (i == 0) { } else { i = 1 / 0; } } }", "++-+-+", 0},
	} {
		u := unit(t, c.text)
		a := solved(t, u, enough)
		got := ""
		for _, s := range append(slices.Clone(a.Ahead), a.End) {
			got += map[bool]string{true: "-", false: "+"}[s.Bottom()]
		}
		if got != c.want || len(a.Alarms) != c.alarms {
			t.Errorf("%s: %s, %v; want %s, %d alarms", c.text, got, a.Alarms, c.want, c.alarms)
		}
	}
}

// What is known of a point is that of the last time: at first the inner loop is widened, and comes behind 50; then it knows of 10 ahead of it, and does not.
func TestTheLastTimeCounts(t *testing.T) {
	u := unit(t, "int i; int k; while (k < 10) { k = k + 1; while (i < 10) { i = i + 1; } if (i > 50) { i = 1 / 0; } read i in [0, 10]; }")
	a := solved(t, u, api.Options{Delay: 1, Budget: 1000})
	if !a.Ahead[5].Bottom() || len(a.Alarms) != 0 || a.Ahead[4].Int(0) != ints(10, 10) {
		t.Error(a.Ahead[5].Bottom(), a.Alarms, a.Ahead[4].Int(0))
	}
}

// Loops that end, and that do not; up and down; joined, and widened.
func TestLoops(t *testing.T) {
	top := int64(api.MaxInt)
	for _, c := range []struct {
		text       string
		options    api.Options
		ahead, end api.IntRange // i, ahead of the point 0, and at the end
		steps      int
	}{
		// Never gone through; once; as often as it is joined.
		{"int i; while (i > 0) { i = i + 1; }", api.Options{}, ints(0, 0), ints(0, 0), 1}, {"int i; while (i < 1) { i = i + 1; }", api.Options{Delay: 1}, ints(0, 1), ints(1, 1), 4}, {"int i; while (i < 3) { i = i + 1; }", api.Options{Delay: 3}, ints(0, 3), ints(3, 3), 8}, {"int i; while (i < 10) { i = i + 1; }", api.Options{Delay: 100}, ints(0, 10), ints(10, 10), 22},
		// Widened at once, or behind some times; up to thresholds, as far as they lie there.
		{"int i; while (i < 10) { i = i + 1; }", api.Options{}, ints(0, top), ints(10, top), 4}, {"int i; while (i < 10) { i = i + 1; }", api.Options{Delay: 4}, ints(0, top), ints(10, top), 12}, {"int i; while (i < 10) { i = i + 1; }", api.Options{Thresholds: []int64{10}}, ints(0, 10), ints(10, 10), 4}, {"int i; while (i < 10) { i = i + 1; }", api.Options{Thresholds: []int64{100, 5, 7, -3}}, ints(0, 100), ints(10, 100), 8}, {"int i; while (i < 10) { i = i + 1; }", api.Options{Thresholds: []int64{9, 1 << 40}}, ints(0, top), ints(10, top), 6},
		// Down.
		{"int i; while (i > -10) { i = i - 1; }", api.Options{}, ints(api.MinInt, 0), ints(api.MinInt, -10), 4}, {"int i; while (i > -10) { i = i - 1; }", api.Options{Thresholds: []int64{-10, -3}}, ints(-10, 0), ints(-10, -10), 6}, {"int i; while (i > -3) { i = i - 2; }", api.Options{Delay: 9}, ints(-4, 0), ints(-4, -3), 6},
		// It never ends.
		{"int i; while (i >= 0) { i = i + 1; }", api.Options{}, ints(0, top), noInts, 4}, {"int i; while (i == 0) { i = 0; }", api.Options{}, ints(0, 0), noInts, 2},
		// What stays as it is.
		{"int i; int j; while (j < 9) { j = j + 1; }", api.Options{}, ints(0, 0), ints(0, 0), 4}, {"int i; int j; while (j < 9) { j = j + 1; i = j; }", api.Options{}, ints(0, top), ints(9, top), 6},
	} {
		u := unit(t, c.text)
		c.options.Budget = 1000
		a := solved(t, u, c.options)
		if a.Ahead[0].Int(0) != c.ahead || a.End.Int(0) != c.end || a.Steps > c.steps || a.Tired {
			t.Errorf("%s %v: %v, %v, %d steps; want %v, %v, %d", c.text, c.options, a.Ahead[0].Int(0), a.End.Int(0), a.Steps, c.ahead, c.end, c.steps)
		}
	}
}

// Floats are widened likewise; ifs join what comes out of both; of an array all cells have one range.
func TestRangesBehind(t *testing.T) {
	a := solved(t, unit(t, "double x; int n; while (n < 9) { x = x * 0.5 + 1.0; n = n + 1; }"), api.Options{Budget: 1000})
	if r := a.End.Float(0); r.Empty || r.Lo != 0 {
		t.Error(r)
	}
	a = solved(t, unit(t, "float f; int i; read i in [0, 9]; if (i > 5) { f = float(1.5); i = 20; } else { f = float(-1.5); }"), enough)
	if a.End.Float(0) != singles(-1.5, 1.5) || a.End.Int(1) != ints(0, 20) || a.Ahead[3].Int(1) != ints(6, 9) || a.Ahead[4].Int(1) != ints(0, 5) {
		t.Error(a.End.Float(0), a.End.Int(1), a.Ahead[3].Int(1))
	}
	a = solved(t, unit(t, "double a[3]; int i; while (i < 3) { a[i] = 2.0; i = i + 1; } a[i] = 7.0;"), api.Options{Delay: 5, Budget: 1000})
	if a.End != nil && !a.End.Bottom() || a.Ahead[3].Float(0) != doubles(0, 2) || !slices.Equal(a.Alarms, []api.Alarm{{Point: 3, Trap: api.TrapIndex}}) {
		t.Error(a.Ahead[3].Float(0), a.Alarms)
	}
}

// Of many Reads, one behind the other and in loops.
func TestManyReads(t *testing.T) {
	text := strings.Repeat("read i in [0, 9]; read d in [-0.5, 0.5]; ", 60)
	u := unit(t, "int i; double d; "+text)
	a := solved(t, u, enough)
	if a.Steps != 120 || a.End.Int(0) != ints(0, 9) || a.End.Float(1) != doubles(-0.5, 0.5) || len(a.Alarms) != 0 {
		t.Error(a.Steps, a.End.Int(0), a.End.Float(1))
	}
	a = solved(t, unit(t, "int i; double d; while (i < 5) { "+text+"}"), api.Options{Delay: 1, Budget: 1000})
	if a.End.Int(0) != ints(5, 9) || len(a.Alarms) != 0 || a.Tired {
		t.Error(a.End.Int(0), a.Alarms, a.Steps)
	}
}

// P14.5: all traps of a point, and all points, in their order.
func TestAlarmsInOrder(t *testing.T) {
	u := unit(t, "int i; double x; int a[2]; read x in [-3000000000.0, 3000000000.0]; read i in [-9, 9]; a[i] = int(sqrt(x) / x * 99999999999999999.0) * 5 / i; x = 1.0 / x; if (1 / i > a[i]) { x = x / 0.0; }")
	a := solved(t, u, enough)
	want := []api.Alarm{
		{Point: 2, Trap: api.TrapNan}, {Point: 2, Trap: api.TrapConv}, {Point: 2, Trap: api.TrapOver}, {Point: 2, Trap: api.TrapZero}, {Point: 2, Trap: api.TrapIndex},
		{Point: 3, Trap: api.TrapInf}, {Point: 4, Trap: api.TrapZero}, {Point: 4, Trap: api.TrapIndex}, {Point: 5, Trap: api.TrapNan}, {Point: 5, Trap: api.TrapInf},
	}
	for _, x := range want {
		if !slices.Contains(a.Alarms, x) {
			t.Errorf("no alarm %v in %v", x, a.Alarms)
		}
	}
	// An alarm of a loop stands once, how often it may be gone through.
	a = solved(t, unit(t, "int i; int j; while (i < 9) { i = i + 1; j = 9 / j; }"), api.Options{Delay: 9, Budget: 1000})
	if !slices.Equal(a.Alarms, []api.Alarm{{Point: 2, Trap: api.TrapZero}}) {
		t.Error(a.Alarms)
	}
}

// P3: what is handed in stays as it is, and what is told is the caller's.
func TestWhatIsTheCallers(t *testing.T) {
	u := unit(t, "int i; int j; while (i < 10) { i = i + 1; j = 9 / j; }")
	room := []int64{7, 100, -3, 55, 66}
	o := api.Options{Delay: 1, Thresholds: room[:3], Budget: 50}
	a, b := solved(t, u, o), solved(t, u, o)
	if !slices.Equal(room, []int64{7, 100, -3, 55, 66}) {
		t.Error("the thresholds were changed:", room)
	}
	for k := range a.Ahead {
		a.Ahead[k] = nil
	}
	a.Ahead = append(a.Ahead, a.End)
	a.Alarms[0] = api.Alarm{Point: 99}
	if !isSame(b, solved(t, u, o)) {
		t.Error("what was told hangs on what was made of another answer")
	}
	room[1] = 3
	if !isSame(b, solved(t, u, api.Options{Delay: 1, Thresholds: []int64{7, 100, -3}, Budget: 50})) {
		t.Error("thresholds were kept")
	}
}

// A state that is told is not changed by what comes behind it: each stands for its point alone.
func TestStatesAreTheirOwn(t *testing.T) {
	u := unit(t, "int i; int j; i = 1; j = 2; if (i < j) { i = 7; } i = i + j;")
	a := solved(t, u, enough)
	for k, want := range [][]int64{{0, 0}, {1, 0}, {1, 2}, {1, 2}, {7, 2}, {9, 2}} {
		s := a.End
		if k < len(a.Ahead) {
			s = a.Ahead[k]
		}
		if !hasJust(s, []fint.Value{{Type: api.IntType, Int: want[0]}, {Type: api.IntType, Int: want[1]}}) {
			t.Errorf("%d: %v, %v; want %v", k, s.Int(0), s.Int(1), want)
		}
	}
}
