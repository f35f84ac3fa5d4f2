package linear_test

import (
	"math"
	"testing"

	"plumbline/api"
	"plumbline/linear"
)

// P9.1: the sums and products of the ends, rounded outward, of all edges.
func TestSumAndProduct(t *testing.T) {
	for _, a := range ranges() {
		for _, b := range ranges() {
			want, ok := trueSum(a, b)
			if got, is := linear.Sum(a, b); got != want || is != ok {
				t.Fatalf("Sum(%v, %v) = %v, %v; want %v, %v", a, b, got, is, want, ok)
			}
			want, ok = trueProduct(a, b)
			if got, is := linear.Product(a, b); got != want || is != ok {
				t.Fatalf("Product(%v, %v) = %v, %v; want %v, %v", a, b, got, is, want, ok)
			}
		}
	}
}

func TestSumAndProductOfMany(t *testing.T) {
	d := dice(88172645463325252)
	for range 20000 {
		a, b := d.floatRange(), d.floatRange()
		want, ok := trueSum(a, b)
		if got, is := linear.Sum(a, b); got != want || is != ok {
			t.Fatalf("Sum(%v, %v) = %v, %v; want %v, %v", a, b, got, is, want, ok)
		}
		want, ok = trueProduct(a, b)
		if got, is := linear.Product(a, b); got != want || is != ok {
			t.Fatalf("Product(%v, %v) = %v, %v; want %v, %v", a, b, got, is, want, ok)
		}
	}
}

// Some that are worked out by hand.
func TestSumsByHand(t *testing.T) {
	tiny, next := 0x1p-60, math.Nextafter(1, 2)
	for _, c := range []struct {
		a, b, want api.FloatRange
		ok         bool
	}{
		{from(1, 2), from(3, 5), from(4, 7), true},
		{from(1, 1), from(tiny, tiny), from(1, next), true},
		{from(1, 1), from(-tiny, tiny), from(math.Nextafter(1, 0), next), true},
		{from(-1, 1), from(-1, 1), from(-2, 2), true},
		{from(1, 1), from(-1, -1), from(0, 0), true},
		{from(0, 0), from(0, 0), from(0, 0), true},
		{from(-most, most), from(0, 0), from(-most, most), true},
		{from(0, most), from(0, least), api.FloatRange{}, false},
		{from(-most, 0), from(-least, 0), api.FloatRange{}, false},
		{from(most, most), from(1, 1), api.FloatRange{}, false},
		{from(most, most), from(-1, -1), from(math.Nextafter(most, 0), most), true},
		{from(-most, most), from(-most, most), api.FloatRange{}, false},
		{from(-most, -most), from(most, most), from(0, 0), true},
	} {
		if got, ok := linear.Sum(c.a, c.b); got != c.want || ok != c.ok {
			t.Errorf("Sum(%v, %v) = %v, %v; want %v, %v", c.a, c.b, got, ok, c.want, c.ok)
		}
	}
}

func TestProductsByHand(t *testing.T) {
	for _, c := range []struct {
		a, b, want api.FloatRange
		ok         bool
	}{
		{from(1, 2), from(3, 5), from(3, 10), true},
		{from(-1, 2), from(3, 5), from(-5, 10), true},
		{from(-1, 2), from(-3, 5), from(-6, 10), true},
		{from(-4, 2), from(-3, 5), from(-20, 12), true},
		{from(-2, -1), from(-5, -3), from(3, 10), true},
		{from(-2, -1), from(3, 5), from(-10, -3), true},
		{from(-2, 0), from(0, 5), from(-10, 0), true},
		{from(0, 0), from(-most, most), from(0, 0), true},
		{from(-1, -1), from(0, 0), from(0, 0), true},
		{from(least, least), from(0.5, 0.5), from(0, least), true},
		{from(-least, -least), from(0.5, 0.5), from(-least, 0), true},
		{from(-least, least), from(least, least), from(-least, least), true},
		{from(most, most), from(2, 2), api.FloatRange{}, false},
		{from(-most, -1), from(2, 2), api.FloatRange{}, false},
		{from(-most, -1), from(-2, 1), api.FloatRange{}, false},
		{from(-1, 0x1p512), from(0, 0x1p512), api.FloatRange{}, false},
		{from(-1, 0x1p511), from(0, 0x1p512), from(-0x1p512, 0x1p1023), true},
	} {
		if got, ok := linear.Product(c.a, c.b); got != c.want || ok != c.ok {
			t.Errorf("Product(%v, %v) = %v, %v; want %v, %v", c.a, c.b, got, ok, c.want, c.ok)
		}
		if got, ok := linear.Product(c.b, c.a); got != c.want || ok != c.ok {
			t.Errorf("Product(%v, %v) = %v, %v; want %v, %v", c.b, c.a, got, ok, c.want, c.ok)
		}
	}
}

// P9.1: Empty and true, if one is Empty; false, unless both are right.
func TestSumAndProductOfWrongRanges(t *testing.T) {
	for name, by := range map[string]func(a, b api.FloatRange) (api.FloatRange, bool){"Sum": linear.Sum, "Product": linear.Product} {
		for _, a := range append(ranges(), none) {
			if got, ok := by(a, none); got != none || !ok {
				t.Errorf("%s(%v, Empty) = %v, %v", name, a, got, ok)
			}
			if got, ok := by(none, a); got != none || !ok {
				t.Errorf("%s(Empty, %v) = %v, %v", name, a, got, ok)
			}
		}
		for _, bad := range wrongRanges() {
			for _, a := range append(wrongRanges(), none, from(0, 0), from(1, 2), from(-most, most)) {
				if got, ok := by(a, bad); got != (api.FloatRange{}) || ok {
					t.Errorf("%s(%v, %v) = %v, %v", name, a, bad, got, ok)
				}
				if got, ok := by(bad, a); got != (api.FloatRange{}) || ok {
					t.Errorf("%s(%v, %v) = %v, %v", name, bad, a, got, ok)
				}
			}
		}
	}
}

// P9.1 (E4): true sums and products lie in what is told.
func TestSumAndProductContain(t *testing.T) {
	d := dice(362436069)
	for range 20000 {
		a, b := d.floatRange(), d.floatRange()
		x, y := d.within(a), d.within(b)
		if r, ok := linear.Sum(a, b); ok && (lo(r).Cmp(plus(x, y)) > 0 || hi(r).Cmp(plus(x, y)) < 0) {
			t.Fatalf("Sum(%v, %v) = %v has lost %v and %v", a, b, r, x, y)
		}
		if r, ok := linear.Product(a, b); ok && (lo(r).Cmp(times(x, y)) > 0 || hi(r).Cmp(times(x, y)) < 0) {
			t.Fatalf("Product(%v, %v) = %v has lost %v and %v", a, b, r, x, y)
		}
	}
}
