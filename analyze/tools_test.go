package analyze_test

import (
	"math"
	"strconv"
	"strings"
	"testing"

	"plumbline/analyze"
	"plumbline/api"
	"plumbline/fint"
)

// usual are options with which small programs come to their end.
var usual = api.Options{Delay: 2, Budget: 1000}

func intValue(n int64) fint.Value { return fint.Value{Type: api.IntType, Int: n} }

func singleValue(x float32) fint.Value {
	// What is added takes the sign of -0 away.
	return fint.Value{Type: api.FloatType, Bits: uint64(math.Float32bits(x + 0))}
}

func doubleValue(x float64) fint.Value {
	return fint.Value{Type: api.DoubleType, Bits: math.Float64bits(x + 0)}
}

// analyzed is the report of a text that is a program.
func analyzed(t *testing.T, text string, o api.Options) string {
	t.Helper()
	s, e := analyze.Analyze([]byte(text), o)
	if e != api.OK {
		t.Fatalf("%s %v: %d", text, o, e)
	}
	return s
}

// told is a report that is read back.
type told struct {
	points      []known
	end         known
	alarms      []api.Alarm
	tired, safe bool
}

// known is what is told of a state: by its variables' names both ends, as they are written; nil, if it is unreached.
type known map[string][2]string

func readBack(t *testing.T, text string) told {
	t.Helper()
	var r told
	l := strings.Split(text, "\n")
	if len(l) < 3 || l[len(l)-1] != "" {
		t.Fatalf("no report: %q", text)
	}
	for _, line := range l[:len(l)-1] {
		head, rest, _ := strings.Cut(line, " ")
		switch head {
		case "point":
			number, state, _ := strings.Cut(rest, ": ")
			if number != strconv.Itoa(len(r.points)) {
				t.Fatalf("points out of order: %q", text)
			}
			r.points = append(r.points, knownOf(t, state))
		case "end:":
			r.end = knownOf(t, rest)
		case "alarm":
			r.alarms = append(r.alarms, alarmOf(t, rest))
		case "tired":
			r.tired = true
		case "safe", "unsafe":
			r.safe = line == "safe"
		default:
			t.Fatalf("a line that is none: %q", line)
		}
	}
	return r
}

func knownOf(t *testing.T, text string) known {
	t.Helper()
	if text == "unreached" {
		return nil
	}
	k := known{}
	for _, part := range strings.Fields(text) {
		name, ends, ok := strings.Cut(part, "=")
		lo, hi, both := strings.Cut(ends, "..")
		if !ok || !both {
			t.Fatalf("no state: %q", text)
		}
		k[name] = [2]string{lo, hi}
	}
	return k
}

func alarmOf(t *testing.T, text string) api.Alarm {
	t.Helper()
	number, word, _ := strings.Cut(text, " ")
	point, err := strconv.Atoi(number)
	for trap, w := range []string{1: "nan", 2: "inf", 3: "conv", 4: "over", 5: "zero", 6: "index"} {
		if err == nil && w != "" && w == word {
			return api.Alarm{Point: api.Point(point), Trap: api.Trap(trap)}
		}
	}
	t.Fatalf("no alarm: %q", text)
	return api.Alarm{}
}

// has tells whether a value lies between two ends, as they are written.
func has(ends [2]string, v fint.Value) bool {
	lo, hi := numberOf(v.Type, ends[0]), numberOf(v.Type, ends[1])
	x := float64(v.Int)
	switch v.Type {
	case api.FloatType:
		x = float64(math.Float32frombits(uint32(v.Bits)))
	case api.DoubleType:
		x = math.Float64frombits(v.Bits)
	}
	return lo <= x && x <= hi
}

// numberOf is an end, as it is written of a type; none, if it is no such one.
func numberOf(t api.Type, s string) float64 {
	if t == api.IntType {
		n, err := strconv.ParseInt(s, 10, 32)
		if err != nil {
			return math.NaN()
		}
		return float64(n)
	}
	digits := map[api.Type]int{api.FloatType: 8, api.DoubleType: 16}[t]
	bits, err := strconv.ParseUint(s, 16, 64)
	switch {
	case err != nil || len(s) != digits:
		return math.NaN()
	case t == api.FloatType:
		return float64(math.Float32frombits(uint32(bits)))
	}
	return math.Float64frombits(bits)
}

// hasCells tells whether the cells of all variables lie in what is told of them.
func (k known) hasCells(decls []api.Decl, cells []fint.Value) bool {
	if len(k) != len(decls) {
		return false
	}
	for _, d := range decls {
		for range max(d.Cells, 1) {
			if !has(k[d.Name], cells[0]) {
				return false
			}
			cells = cells[1:]
		}
	}
	return len(cells) == 0
}

// dice are numbers that look like chance but are always the same.
type dice uint64

func (d *dice) next() uint64 {
	*d ^= *d << 13
	*d ^= *d >> 7
	*d ^= *d << 17
	return uint64(*d) * 0x2545f4914f6cdd1d
}

func (d *dice) below(n int) int { return int(d.next() >> 33 % uint64(n)) }

func pick[T any](d *dice, l ...T) T { return l[d.below(len(l))] }
