package soft

import (
	"plumbline/api"
	"plumbline/wide"
)

// farApart is how many powers of 2 one float may lie above another one and their sum still fit into a wide number.
const farApart = 70

// sum is the sum of two finite floats, rounded.
func sum(f api.Format, m api.Mode, x, y parts) uint64 {
	if x.power < y.power {
		x, y = y, x
	}
	// So far below it does not reach a quarter of a step of the other one, and does not when it is raised: only that it is there counts.
	y.power = max(y.power, x.power-farApart)
	a := wide.Shl(api.U128{Lo: x.whole}, x.power-y.power)
	b := api.U128{Lo: y.whole}
	if x.below == y.below {
		n, _ := wide.Add(a, b)
		return Round(f, m, x.below, n, y.power, false)
	}
	below := x.below
	if order := wide.Compare(a, b); order == 0 {
		below = m == api.Down
	} else if order < 0 {
		a, b, below = b, a, y.below
	}
	n, _ := wide.Sub(a, b)
	return Round(f, m, below, n, y.power, false)
}

// quotient is that of two finite floats, the second one not 0: n and its power of 2, and whether there is more.
func quotient(x, y parts) (n api.U128, power int, more bool) {
	// With all 128 bits it has at least 75 of them, so that what is more lies far below half of a step.
	up := 128 - wide.Len(api.U128{Lo: x.whole})
	n, left := wide.Div(wide.Shl(api.U128{Lo: x.whole}, up), y.whole)
	return n, x.power - up - y.power, left != 0
}

// root is that of a finite float above 0: n and its power of 2, and whether there is more.
func root(x parts) (n api.U128, power int, more bool) {
	// Its root then has 63 bits or 64, so that what is more lies far below half of a step.
	up := 126 - wide.Len(api.U128{Lo: x.whole})
	if (x.power-up)%2 != 0 {
		up++
	}
	whole, left := wide.Sqrt(wide.Shl(api.U128{Lo: x.whole}, up))
	return api.U128{Lo: whole}, (x.power - up) / 2, left != api.U128{}
}
