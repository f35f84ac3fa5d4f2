package analyze_test

import (
	"strconv"
	"strings"

	"plumbline/api"
	"plumbline/fint"
)

// drawn is a program's text, and what it reads: at its beginning one value between each two bounds, and then, as often as it comes to it, an n of -2 to 3.
type drawn struct {
	text  string
	reads []bounds
}

type bounds struct {
	kind   api.Type
	lo, hi string
}

const readAgain = "read n in [-2, 3];"

// script is values that fit, more than a run of so many steps can read.
func (d *dice) script(p drawn, steps int) []fint.Value {
	var l []fint.Value
	for _, b := range p.reads {
		l = append(l, d.between(b))
	}
	for range steps {
		l = append(l, intValue(int64(d.below(6)-2)))
	}
	return l
}

// between is an end, 0, or any value between both.
func (d *dice) between(b bounds) fint.Value {
	size := 64
	if b.kind == api.FloatType {
		size = 32
	}
	lo, _ := strconv.ParseFloat(b.lo, size)
	hi, _ := strconv.ParseFloat(b.hi, size)
	x := lo + (hi-lo)*float64(d.below(1<<20))/(1<<20)
	switch d.below(5) {
	case 0:
		x = lo
	case 1:
		x = hi
	case 2:
		x = max(lo, min(0, hi))
	}
	switch b.kind {
	case api.IntType:
		return intValue(int64(x))
	case api.FloatType:
		return singleValue(float32(x))
	}
	return doubleValue(x)
}

// begun is declarations in any order, and Reads of some variables.
func (d *dice) begun() drawn {
	decls := []string{"int i;", "int j;", "int n;", "float f;", "float g;", "double d;", "double e;", "int b[4];", "float c[1];", "double a[3];"}
	for k := range decls {
		other := k + d.below(len(decls)-k)
		decls[k], decls[other] = decls[other], decls[k]
	}
	p := drawn{text: strings.Join(decls, pick(d, "", " ", "\n"))}
	for range d.below(6) {
		p.read(d, d.below(4) == 0)
	}
	return p
}

// read puts a Read behind the text: of one value, if alone.
func (p *drawn) read(d *dice, alone bool) {
	name := pick(d, "i", "j", "f", "g", "d", "e")
	b := bounds{kind: kindOf(name)}
	if b.kind == api.IntType {
		b.lo, b.hi = pick(d, "-2147483647", "-7", "-1", "0", "1"), pick(d, "1", "2", "9", "2147483647")
	} else {
		b.lo, b.hi = pick(d, "-12345678901234567.8", "-1.5", "-0.1", "0.0", "0.25"), pick(d, "0.3", "1.0", "16777217.0", "12345678901234567.8")
	}
	if alone {
		b.lo = b.hi
	}
	p.reads = append(p.reads, b)
	p.text += "read " + name + " in[" + b.lo + "," + b.hi + "];"
}

func kindOf(name string) api.Type {
	switch name {
	case "i", "j", "n", "b":
		return api.IntType
	case "f", "g", "c":
		return api.FloatType
	}
	return api.DoubleType
}

// program is one of all kinds of statements.
func (d *dice) program() drawn {
	p := d.begun()
	p.text += d.block(3)
	return p
}

// straight is one of Assigns and Reads of one value each, in which nothing is an array.
func (d *dice) straight() drawn {
	p := drawn{text: "int i;double d;float g;int n;float f;int j;double e;"}
	for range d.below(8) {
		if d.below(3) == 0 {
			p.read(d, true)
		} else {
			p.text += d.assign(false)
		}
	}
	return p
}

func (d *dice) block(deep int) string {
	text := ""
	for range d.below(5) {
		text += d.statement(deep)
	}
	return text
}

func (d *dice) statement(deep int) string {
	kind := d.below(10)
	if deep == 0 {
		kind = d.below(6)
	}
	switch kind {
	case 0:
		return readAgain
	case 6, 7:
		return "if(" + d.truth(2) + "){" + d.block(deep-1) + "}" + pick(d, "", "else{}", "else{"+d.block(deep-1)+"}")
	case 8:
		return "while(" + d.truth(2) + "){" + d.block(deep-1) + "}"
	case 9:
		name := pick(d, "i", "j")
		return name + "=0;while(" + name + "<" + pick(d, "2", "4", "9") + "){" + d.block(deep-1) + name + "=" + name + "+1;}"
	}
	return d.assign(true)
}

// assign is one, of any type; arrays says whether there may be some.
func (d *dice) assign(arrays bool) string {
	if arrays && d.below(5) == 0 {
		name := pick(d, "a", "b", "c")
		return name + "[" + d.index() + "]=" + d.expression(kindOf(name), 2, true) + ";"
	}
	name := pick(d, "i", "i", "j", "j", "n", "f", "g", "d", "e")
	return name + "=" + d.expression(kindOf(name), d.below(4), arrays) + ";"
}

func (d *dice) index() string {
	return pick(d, "0", "0", "1", "2", "i", "j", "n", "i-1", "3-j", "n+2")
}

func (d *dice) expression(kind api.Type, deep int, arrays bool) string {
	if deep == 0 || d.below(5) == 0 {
		return d.plain(kind)
	}
	again := func() string { return d.expression(kind, deep-1, arrays) }
	switch d.below(8) {
	case 0:
		if arrays {
			return []string{api.IntType: "b", api.FloatType: "c", api.DoubleType: "a"}[kind] + "[" + d.index() + "]"
		}
	case 1:
		return pick(d, "-", "--", "abs") + "(" + again() + ")"
	case 2:
		if kind != api.IntType {
			return "sqrt(" + again() + ")"
		}
	case 3:
		from := pick(d, api.IntType, api.FloatType, api.DoubleType)
		return wordOf(kind) + "(" + d.expression(from, deep-1, arrays) + ")"
	}
	return "(" + again() + pick(d, "+", "-", "+", "-", "*", "/") + again() + ")"
}

func wordOf(kind api.Type) string {
	return []string{api.IntType: "int", api.FloatType: "float", api.DoubleType: "double"}[kind]
}

func (d *dice) plain(kind api.Type) string {
	switch kind {
	case api.IntType:
		return pick(d, "i", "j", "n", "0", "1", "2", "5", "100", "2147483647")
	case api.FloatType:
		return pick(d, "f", "g", "f", "g", "float(0.5)", "float(3)")
	}
	return pick(d, "d", "e", "d", "e", "0.0", "0.1", "1.0", "2.5", "10000000000000000.0")
}

func (d *dice) truth(deep int) string {
	if deep > 0 && d.below(3) == 0 {
		return pick(d, "!(", "(") + d.truth(deep-1) + ")" + pick(d, "&&", "||") + "(" + d.truth(deep-1) + ")"
	}
	kind := pick(d, api.IntType, api.IntType, api.FloatType, api.DoubleType)
	return d.expression(kind, d.below(2), true) + pick(d, "<", "<=", ">", ">=", "==", "!=") + d.expression(kind, d.below(2), true)
}

// options are any that may be.
func (d *dice) options() api.Options {
	o := api.Options{Delay: pick(d, 0, 1, 3, 100), Budget: pick(d, 0, 3, 40, 300, 2000)}
	for range d.below(4) {
		o.Thresholds = append(o.Thresholds, pick[int64](d, -7, -1, 0, 1, 4, 9, 1<<40, api.MinInt))
	}
	return o
}
