package rat_test

import (
	"math/big"
	"math/rand"
	"strconv"
	"strings"
	"testing"

	"abacist/api"
	"abacist/plain"
	"abacist/rat"
	"abacist/whole"
)

func parse(t *testing.T, a string) rat.Number {
	t.Helper()
	x, err := rat.Parse(a)
	if err != nil {
		t.Fatalf("Parse(%q): %v", a, err)
	}
	return x
}

func TestParseOfAnySize(t *testing.T) {
	for _, digits := range []int{1, 9, 10, 98, 99, 100, 101, 3000} {
		for _, before := range []string{"", "-", "1/", "-1/", "2/", "-2/"} {
			a := before + strings.Repeat("7", digits) + "1"
			if got := parse(t, a).String(); got != a {
				t.Errorf("%q with %d digits: got %q", before, digits, got)
			}
		}
	}
	for _, a := range []string{"", "/", "1/0", "1/1", "0/2", "2/4", "1/-2", "-0", "-0/2", tooLow + "x", "1/" + tooLow, tooLong + "/3"} {
		x, err := rat.Parse(a)
		if x.String() != "0" || plain.Told(err) != api.ErrForm {
			t.Errorf("Parse(%q) = %v, %v; want ErrForm", a, x, err)
		}
	}
}

func TestRead(t *testing.T) {
	cases := []struct {
		a, want string
		wantErr api.Errno
	}{
		{"-1/2", "-1/2", api.OK},
		{greatest, greatest, api.OK},
		{longFraction, longFraction, api.OK},
		{tooLong, "0", api.ErrFull},
		{tooLongFraction, "0", api.ErrFull},
		{"2/4", "0", api.ErrForm},
	}
	for _, c := range cases {
		x, err := rat.Read(c.a)
		expect(t, "Read("+c.a+")", x.String(), err, c.want, c.wantErr)
	}
}

func TestZeroNumber(t *testing.T) {
	var zero rat.Number
	one := parse(t, "1")
	none, err := zero.Div(one)
	if err != nil {
		t.Fatalf("0 / 1: %v", err)
	}
	for _, x := range []rat.Number{
		zero, zero.Add(zero), zero.Mul(one), zero.Mul(zero), none, parse(t, "0"),
		parse(t, "-1/2").Add(parse(t, "1/2")), parse(t, "-1/2").Mul(zero),
	} {
		got := x.String() + " " + x.Floor().String() + " " + x.Add(one).String() + " " + one.Add(x).String()
		if got != "0 0 1 1" {
			t.Errorf("got %q", got)
		}
		if x.Less(zero) || zero.Less(x) || one.Less(x) || !x.Less(one) || x.Compare(zero) != 0 || zero.Compare(x) != 0 {
			t.Errorf("%v is not in order", x)
		}
		if x.Sign() != 0 || x.Neg().Sign() != 0 || x.Neg().String() != "0" || x.Sub(one).String() != "-1" || one.Sub(x).String() != "1" {
			t.Errorf("%v has another sign, negative or difference than 0", x)
		}
		q, err := one.Div(x)
		if q.String() != "0" || plain.Told(err) != api.ErrZero {
			t.Errorf("Div by 0 = %v, %v", q, err)
		}
	}
}

func TestQuotient(t *testing.T) {
	for top := -9; top <= 9; top++ {
		for bottom := -9; bottom <= 9; bottom++ {
			x, err := rat.Quotient(whole.Of(top), whole.Of(bottom))
			want, wantErr := "0", api.ErrZero
			if bottom != 0 {
				want, wantErr = big.NewRat(int64(top), int64(bottom)).RatString(), api.OK
			}
			expect(t, "Quotient", x.String(), err, want, wantErr)
		}
	}
}

func TestWhole(t *testing.T) {
	for _, a := range []string{"0", "1", "-1", greatest, least, tooLong, tooLow} {
		n, err := whole.Parse(a)
		if err != nil {
			t.Fatalf("Parse(%q): %v", a, err)
		}
		x := rat.Whole(n)
		if x.String() != a || x.Less(parse(t, a)) || parse(t, a).Less(x) {
			t.Errorf("Whole(%s) = %v", a, x)
		}
	}
}

func TestParts(t *testing.T) {
	for _, c := range []struct{ a, top, bottom string }{
		{"0", "0", "1"},
		{"5", "5", "1"},
		{"-5", "-5", "1"},
		{"1/2", "1", "2"},
		{"-10/21", "-10", "21"},
		{leastPositive, "1", leastPositive[2:]},
	} {
		there := parse(t, c.a).Add(parse(t, "1/2"))
		for _, x := range []rat.Number{parse(t, c.a), there.Add(parse(t, "-1/2"))} {
			top, bottom := x.Parts()
			if top.String() != c.top || bottom.String() != c.bottom {
				t.Errorf("Parts of %s: %v and %v", c.a, top, bottom)
			}
		}
	}
	top, bottom := rat.Number{}.Parts()
	if top.String() != "0" || bottom.String() != "1" {
		t.Errorf("Parts of the zero value: %v and %v", top, bottom)
	}
}

func TestLargeNumbers(t *testing.T) {
	source := rand.New(rand.NewSource(6))
	part := func(bits uint) *big.Int {
		x := new(big.Int).Rand(source, new(big.Int).Lsh(big.NewInt(1), bits))
		return x.Add(x, big.NewInt(1))
	}
	for n := uint(300); n < 2000; n += 211 {
		for m := uint(1); m < 2000; m += 223 {
			// The parts have common divisors, which vanish.
			common := part(n)
			x := new(big.Rat).SetFrac(part(n), new(big.Int).Mul(part(m), common))
			y := new(big.Rat).SetFrac(new(big.Int).Mul(part(m), common), part(n))
			minusX, minusY := new(big.Rat).Neg(x), new(big.Rat).Neg(y)
			expectAll(t, x, y)
			expectAll(t, minusX, y)
			expectAll(t, x, minusY)
			expectAll(t, minusX, minusY)
			expectAll(t, x, minusX)
			expectAll(t, y, y)
		}
	}
}

// expectAll compares the results of all methods; y is not 0.
func expectAll(t *testing.T, x, y *big.Rat) {
	t.Helper()
	a, b := parse(t, x.RatString()), parse(t, y.RatString())
	quotient, err := a.Div(b)
	if err != nil {
		t.Fatalf("%v / %v: %v", x, y, err)
	}
	for i, c := range []struct{ got, want string }{
		{a.Add(b).String(), new(big.Rat).Add(x, y).RatString()},
		{a.Sub(b).String(), new(big.Rat).Sub(x, y).RatString()},
		{b.Sub(a).String(), new(big.Rat).Sub(y, x).RatString()},
		{a.Sub(a).String(), "0"},
		{a.Neg().String(), new(big.Rat).Neg(x).RatString()},
		{b.Neg().String(), new(big.Rat).Neg(y).RatString()},
		{strconv.Itoa(a.Sign()), strconv.Itoa(x.Sign())},
		{strconv.Itoa(b.Sign()), strconv.Itoa(y.Sign())},
		{a.Mul(b).String(), new(big.Rat).Mul(x, y).RatString()},
		{quotient.String(), new(big.Rat).Quo(x, y).RatString()},
		{truth(a.Less(b)), truth(x.Cmp(y) < 0)},
		{truth(b.Less(a)), truth(y.Cmp(x) < 0)},
		{strconv.Itoa(a.Compare(b)), strconv.Itoa(x.Cmp(y))},
		{strconv.Itoa(b.Compare(a)), strconv.Itoa(y.Cmp(x))},
		{strconv.Itoa(a.Compare(a)), "0"},
		{a.Floor().String(), floorByBig(x)},
		{b.Floor().String(), floorByBig(y)},
		{a.String(), x.RatString()},
		{b.String(), y.RatString()},
	} {
		if c.got != c.want {
			t.Errorf("%v and %v: value %d is %s, want %s", x, y, i, c.got, c.want)
		}
	}
}
