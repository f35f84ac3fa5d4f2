package judge_test

import (
	"testing"

	"plumbline/api"
	"plumbline/fint"
	"plumbline/judge"
)

// P12.4: each form that the document names, and what it means.
func TestLinear(t *testing.T) {
	u := unit(t, every)
	for _, c := range []struct {
		text string
		v    int
		neg  bool
		c    int64
	}{
		{"i", i, false, 0}, {"j", j, false, 0}, {"-i", i, true, 0}, {"-j", j, true, 0}, {"(i)", i, false, 0}, {"-(j)", j, true, 0},
		{"i + 1", i, false, 1}, {"i - 1", i, false, -1}, {"-i + 1", i, true, 1}, {"-j - 7", j, true, -7}, {"j + 0", j, false, 0}, {"i - 0", i, false, 0}, {"i + 007", i, false, 7},
		{"1 + i", i, false, 1}, {"3 - i", i, true, 3}, {"0 - j", j, true, 0}, {"0 + j", j, false, 0},
		{"i + 2147483647", i, false, api.MaxInt}, {"i - 2147483647", i, false, -api.MaxInt}, {"-i - 2147483647", i, true, -api.MaxInt}, {"2147483647 - i", i, true, api.MaxInt}, {"2147483647 + j", j, false, api.MaxInt},
	} {
		v, neg, n, ok := judge.Linear(u, tree(t, c.text))
		if v != c.v || neg != c.neg || n != c.c || !ok {
			t.Errorf("Linear(%s): %d, %v, %d, %v; want %d, %v, %d", c.text, v, neg, n, ok, c.v, c.neg, c.c)
		}
	}
}

// P12.4: what is near these forms, and is none; with a false all else is zero.
func TestNotLinear(t *testing.T) {
	u := unit(t, every)
	check := func(x api.Expr) {
		t.Helper()
		if v, neg, c, ok := judge.Linear(u, x); v != 0 || neg || c != 0 || ok {
			t.Errorf("Linear(%v): %d, %v, %d, %v", x, v, neg, c, ok)
		}
	}
	for _, text := range []string{
		"1", "-1", "1 + 2", "3 - 1", "--j", "-(-j)", "-(j + 1)", "-(1 - j)", "j + j", "i + j", "j - i", "j - j", "3 + -j", "3 - -j", "-3 + j", "-3 - j", "j + -3", "j - -3", "j + 1 + 1", "j - 1 + 1", "1 + j + 1", "1 + (j + 1)", "(j + 1) - 1", "j + (1 + 1)",
		"2 * j", "j * 1", "1 * j", "j / 1", "abs(j)", "int(j)", "int(j) + 1", "1 - int(j)", "ai[0]", "ai[0] + 1", "1 - ai[0]", "-ai[0]", "-ai[0] + 1", "abs(j) + 1", "int(d)",
		// No ints.
		"d", "-d", "d + 1.0", "1.0 - d", "f", "-f", "f + g", "double(j)", "double(j) + 1.0", "j + 1 < 3", "!(j < 3)", "j < 3 && j > 1",
		// Not in this program, or in none.
		"zz", "-zz", "zz + 1", "1 - zz", "j + 1.0", "1.0 + j", "ai", "-ai", "ai + 1", "1 - ai", "j + 2147483648", "2147483648 - j", "j + 1234567890123456789", "j[0]",
	} {
		check(tree(t, text))
	}
	for _, x := range []api.Expr{
		{}, {Op: api.Var}, {Op: api.Var, Text: "j", Type: api.IntType}, node(api.Neg), node(api.Neg, variable("j"), variable("j")), node(api.Add, variable("j")), node(api.Add, variable("j"), constant("")), node(api.Add, variable("j"), constant("x")),
		node(api.Add, variable("j"), constant("1"), constant("1")), {Op: 99, Kids: []api.Expr{variable("j")}}, node(api.Sub, constant("1"), api.Expr{}),
	} {
		check(x)
	}
	if v, neg, c, ok := judge.Linear(nil, tree(t, "j + 1")); v != 0 || neg || c != 0 || ok {
		t.Error("Linear in no program")
	}
}

// What Linear tells of an expression is its value, where that is none past the ints.
func TestLinearIsTheValue(t *testing.T) {
	u := unit(t, "int a; int b;")
	cells := func(b int64) []fint.Value {
		return []fint.Value{{Type: api.IntType, Int: 99}, {Type: api.IntType, Int: b}}
	}
	for _, text := range []string{"b", "-b", "b + 3", "b - 3", "-b + 3", "-b - 3", "3 + b", "3 - b", "b + 2147483647", "2147483647 - b", "-b - 2147483647"} {
		v, neg, c, ok := judge.Linear(u, tree(t, text))
		if v != 1 || !ok {
			t.Fatalf("Linear(%s): %d, %v", text, v, ok)
		}
		for _, b := range []int64{0, 1, -1, 5, -5, 1000, api.MinInt, api.MinInt + 1, api.MaxInt, api.MaxInt - 3} {
			value, trap, _ := fint.Eval(u, tree(t, text), cells(b))
			want := b + c
			if neg {
				want = c - b
			}
			if trap == api.NoTrap && value.Int != want {
				t.Errorf("%s is %d with %d, and not %d", text, value.Int, b, want)
			}
		}
	}
}
