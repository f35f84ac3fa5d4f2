package conv_test

import (
	"fmt"
	"math"
	"math/big"
	"strconv"
	"strings"
	"testing"

	"plumbline/api"
	"plumbline/conv"
)

// nearest is what the library's own reader of decimals tells.
func nearest(t *testing.T, f api.Format, s string) uint64 {
	t.Helper()
	size := 64
	if f == api.Single {
		size = 32
	}
	x, err := strconv.ParseFloat(s, size)
	if err != nil {
		t.Fatal(s, err)
	}
	if size == 32 {
		return uint64(math.Float32bits(float32(x)))
	}
	return math.Float64bits(x)
}

// literals are texts of 2 digits up to the limit, with the point at all places.
func literals() []string {
	l := []string{"0.0", "00.00", "1.0", "0.5", "100.25", "0.1", "0.3", "9.9", "007.500", "3.14159265358979323"}
	d := dice(362436069362436069)
	for count := 2; count <= api.MaxDigits; count++ {
		for point := 1; point < count; point++ {
			for _, digit := range "019" {
				all := strings.Repeat(string(digit), count)
				l = append(l, all[:point]+"."+all[point:], all[:point]+"."+all[point:count-1]+"1")
			}
			for range 60 {
				all := fmt.Sprintf("%018d", d.next()%1e18)[:count]
				l = append(l, all[:point]+"."+all[point:])
			}
		}
	}
	return l
}

func TestLiteral(t *testing.T) {
	for _, f := range formats {
		for _, s := range literals() {
			if got, e := conv.Literal(f, s); got != nearest(t, f, s) || e != api.OK {
				t.Fatalf("Literal(%d, %s) = %x, %d; want %x", f, s, got, e, nearest(t, f, s))
			}
		}
	}
}

// Texts of 18 digits at most that lie halfway between two floats, or beside that.
func TestLiteralNearHalves(t *testing.T) {
	for _, c := range []struct {
		f    api.Format
		s    string
		want uint64
	}{
		{api.Double, "9007199254740993.0", 0x4340000000000000},
		{api.Double, "9007199254740992.99", 0x4340000000000000},
		{api.Double, "9007199254740993.01", 0x4340000000000001},
		{api.Double, "9007199254740995.0", 0x4340000000000002},
		{api.Double, "4503599627370496.5", 0x4330000000000000},
		{api.Double, "4503599627370497.5", 0x4330000000000002},
		{api.Single, "16777217.0", 0x4b800000},
		{api.Single, "16777219.0", 0x4b800002},
		{api.Single, "16777217.000000001", 0x4b800001},
		{api.Single, "16777216.999999999", 0x4b800000},
		{api.Single, "99999999999999999.9", 0x5bb1a2bc},
		{api.Single, "0.00000000000000001", 0x233877aa},
		{api.Double, "0.00000000000000001", 0x3c670ef54646d497},
		// So little above a half that 70 bits do not tell it from one.
		{api.Double, "9.89318984373645538", 0x4023c9502ddfef53},
		{api.Double, "0.54635484028983200", 0x3fe17bbd2561cbd5},
		{api.Double, "4.49413027361243822", 0x4011f9fd4954840d},
	} {
		if got, e := conv.Literal(c.f, c.s); c.want != nearest(t, c.f, c.s) || got != c.want || e != api.OK {
			t.Errorf("Literal(%d, %s) = %x, %d; want %x", c.f, c.s, got, e, c.want)
		}
	}
}

// Halves between neighbouring floats, as far as 18 digits say them, by fractions of any size.
func TestLiteralAtHalves(t *testing.T) {
	for _, f := range []api.Format{api.Double, api.Single} {
		width, most := 53, int64(1)<<56
		if f == api.Single {
			width, most = 24, 1<<27
		}
		for n := int64(1) << width; n < most; n += most/997 | 1 {
			for _, past := range []string{".0", ".1", ".9"} {
				s := strconv.FormatInt(n, 10) + past
				want, _ := new(big.Rat).SetString(s)
				got, e := conv.Literal(f, s)
				var exact uint64
				if f == api.Single {
					x, _ := want.Float32()
					exact = uint64(math.Float32bits(x))
				} else {
					x, _ := want.Float64()
					exact = math.Float64bits(x)
				}
				if got != exact || e != api.OK {
					t.Fatalf("Literal(%d, %s) = %x, %d; want %x", f, s, got, e, exact)
				}
			}
		}
	}
}

// unfit are texts that are neither digits nor digits, a point and digits.
func unfit() []string {
	l := []string{"", ".", "..", ".5", "1.", "1..2", "1.2.3", "1.2.", ".1.2", "-1", "-1.5", "+1.5", "1.-5", " 1.5", "1.5 ", "1. 5", "1 .5", "1,5", "1e5", "1.5e1", "1.5f", "0x1.8", "1_0.0", "1_0", "a", "a.b", "1.a", "a.1", "1.5\n", "\x00", "1.5\x00", "1\x005", "1/2", "1:2", "1.:", "1./", "/.1", ":.1", "\xb1.\xb1", "１.５", "١.١", "1\xff.5", "1.5\xff", "1.é", "é.1", "NaN", "Inf", "inf.0"}
	long := strings.Repeat("1", 40)
	return append(l, long+".", "."+long, long+"."+long+"x", "x"+long+"."+long, long+"."+long+"."+long, long+"x", long+"\xff")
}

func TestLiteralOfNoNumbers(t *testing.T) {
	for _, f := range formats {
		for _, s := range append(unfit(), "1", "15", strings.Repeat("1", 40)) {
			if got, e := conv.Literal(f, s); got != 0 || e != api.ErrForm {
				t.Errorf("Literal(%d, %q) = %x, %d", f, s, got, e)
			}
		}
	}
}

func TestLiteralOfManyDigits(t *testing.T) {
	for _, f := range formats {
		for point := 1; point <= api.MaxDigits; point++ {
			for _, digit := range "05" {
				all := strings.Repeat(string(digit), api.MaxDigits+1)
				if got, e := conv.Literal(f, all[:point]+"."+all[point:]); got != 0 || e != api.ErrDigits {
					t.Errorf("Literal(%d, %s.%s) = %x, %d", f, all[:point], all[point:], got, e)
				}
				if got, e := conv.Literal(f, all[:point]+"."+all[point:]+strings.Repeat("1", 1000)); got != 0 || e != api.ErrDigits {
					t.Errorf("Literal of 1019 digits: %x, %d", got, e)
				}
			}
		}
	}
}

func TestInt(t *testing.T) {
	for _, c := range []struct {
		s    string
		want int64
		e    api.Errno
	}{
		{"0", 0, api.OK},
		{"1", 1, api.OK},
		{"9", 9, api.OK},
		{"10", 10, api.OK},
		{"1234567890", 1234567890, api.OK},
		{"007", 7, api.OK},
		{"2147483647", 2147483647, api.OK},
		{"000000002147483647", 2147483647, api.OK},
		{"000000000000000000", 0, api.OK},
		{"2147483648", 0, api.ErrRange},
		{"000000002147483648", 0, api.ErrRange},
		{"4294967296", 0, api.ErrRange},
		{"999999999999999999", 0, api.ErrRange},
		{"0000000000000000000", 0, api.ErrDigits},
		{"0000000002147483647", 0, api.ErrDigits},
		{"1000000000000000000", 0, api.ErrDigits},
		{"18446744073709551617", 0, api.ErrDigits},
		{strings.Repeat("9", 5000), 0, api.ErrDigits},
	} {
		if got, e := conv.Int(c.s); got != c.want || e != c.e {
			t.Errorf("Int(%s) = %d, %d; want %d, %d", c.s, got, e, c.want, c.e)
		}
	}
	for _, s := range append(unfit(), "1.5", "0.0", "2147483648.0") {
		if got, e := conv.Int(s); got != 0 || e != api.ErrForm {
			t.Errorf("Int(%q) = %d, %d", s, got, e)
		}
	}
}

func TestHex(t *testing.T) {
	for _, f := range formats {
		k := namedOf(f)
		width := 16
		if f == api.Single {
			width = 8
		}
		l := append(k.finite(), k.inf, k.inf|k.sign, k.nan, k.nan|k.sign, k.inf+1, k.sign-1, k.sign|(k.sign-1), 0xabcdef)
		for _, a := range l {
			if got, want := conv.Hex(f, a), fmt.Sprintf("%0*x", width, a); got != want {
				t.Errorf("Hex(%d, %x) = %s; want %s", f, a, got, want)
			}
		}
	}
	for _, bad := range namedOf(api.Single).noBits() {
		if got := conv.Hex(api.Single, bad); got != "7fc00000" {
			t.Errorf("Hex of %x: %s", bad, got)
		}
	}
	for a, want := range map[uint64]string{0: "0000000000000000", 1 << 63: "8000000000000000", ^uint64(0): "ffffffffffffffff", 0x7ff8000000000001: "7ff8000000000001"} {
		if got := conv.Hex(api.Double, a); got != want {
			t.Errorf("Hex of %x: %s", a, got)
		}
	}
}
