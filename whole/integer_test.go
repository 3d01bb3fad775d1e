package whole_test

import (
	"cmp"
	"math"
	"math/big"
	"math/rand"
	"strconv"
	"strings"
	"testing"

	"abacist/api"
	"abacist/plain"
	"abacist/whole"
)

func parse(t *testing.T, a string) whole.Integer {
	t.Helper()
	x, err := whole.Parse(a)
	if err != nil {
		t.Fatalf("Parse(%q): %v", a, err)
	}
	return x
}

func TestParseOfAnySize(t *testing.T) {
	for _, digits := range []int{1, 9, 10, 99, 100, 101, 3000} {
		for _, sign := range []string{"", "-"} {
			a := sign + strings.Repeat("7", digits)
			if got := parse(t, a).String(); got != a {
				t.Errorf("%q with %d digits: got %q", sign, digits, got)
			}
		}
	}
	for _, a := range []string{"", "-", "-0", "00", "--1", "1x", tooLow + "x", "-0" + tooLong} {
		x, err := whole.Parse(a)
		if x.String() != "0" || plain.Told(err) != api.ErrForm {
			t.Errorf("Parse(%q) = %v, %v; want ErrForm", a, x, err)
		}
	}
}

func TestRead(t *testing.T) {
	cases := []struct {
		a, want string
		wantErr api.Errno
	}{
		{"-12", "-12", api.OK},
		{greatest, greatest, api.OK},
		{least, least, api.OK},
		{tooLong, "0", api.ErrFull},
		{tooLow, "0", api.ErrFull},
		{"-0", "0", api.ErrForm},
	}
	for _, c := range cases {
		x, err := whole.Read(c.a)
		if x.String() != c.want || plain.Told(err) != c.wantErr {
			t.Errorf("Read(%q) = %v, %v; want %s, %v", c.a, x, err, c.want, c.wantErr)
		}
	}
}

func TestOf(t *testing.T) {
	for _, n := range []int{
		0, 1, -1, 10, -10, 1<<32 - 1, 1 << 32, -1 << 32, -1<<32 - 1,
		math.MaxInt, -math.MaxInt, math.MinInt,
	} {
		x := whole.Of(n)
		if x.String() != strconv.Itoa(n) || x.Sign() != cmp.Compare(n, 0) {
			t.Errorf("Of(%d) = %v, with sign %d", n, x, x.Sign())
		}
	}
}

func TestZeroInteger(t *testing.T) {
	var zero whole.Integer
	one := parse(t, "1")
	for _, x := range []whole.Integer{
		zero, zero.Neg(), zero.Add(zero), zero.Sub(zero), zero.Mul(one.Neg()),
		one.Sub(one), one.Neg().Add(one), parse(t, "0"),
	} {
		if x.Sign() != 0 || x.Less(zero) || zero.Less(x) {
			t.Errorf("%v is not 0: its sign is %d", x, x.Sign())
		}
		if got := x.String() + " " + x.Sub(one).String() + " " + one.Sub(x).String(); got != "0 -1 1" {
			t.Errorf("got %q", got)
		}
	}
	q, r, err := one.Div(zero)
	if q.String() != "0" || r.String() != "0" || plain.Told(err) != api.ErrZero {
		t.Errorf("Div by 0 = %v, %v, %v", q, r, err)
	}
}

func TestLargeIntegers(t *testing.T) {
	source := rand.New(rand.NewSource(4))
	for n := uint(300); n < 4000; n += 379 {
		for m := uint(1); m < 4000; m += 401 {
			x := new(big.Int).Rand(source, new(big.Int).Lsh(big.NewInt(1), n))
			y := new(big.Int).Rand(source, new(big.Int).Lsh(big.NewInt(1), m))
			y.Add(y, big.NewInt(1))
			minusX, minusY := new(big.Int).Neg(x), new(big.Int).Neg(y)
			expectAll(t, x, y)
			expectAll(t, minusX, y)
			expectAll(t, x, minusY)
			expectAll(t, minusX, minusY)
		}
	}
}

// expectAll compares the results of all methods; y is not 0.
func expectAll(t *testing.T, x, y *big.Int) {
	t.Helper()
	a, b := parse(t, x.String()), parse(t, y.String())
	q, r, err := a.Div(b)
	if err != nil {
		t.Fatalf("%v / %v: %v", x, y, err)
	}
	if a.Less(b) != (x.Cmp(y) < 0) || a.Sign() != x.Sign() {
		t.Errorf("%v and %v: Less is %v, the sign of the first is %d", x, y, a.Less(b), a.Sign())
	}
	wantQ, wantR := new(big.Int).DivMod(x, y, new(big.Int))
	for i, c := range []struct {
		got  whole.Integer
		want *big.Int
	}{
		{a.Add(b), new(big.Int).Add(x, y)},
		{a.Sub(b), new(big.Int).Sub(x, y)},
		{a.Mul(b), new(big.Int).Mul(x, y)},
		{a.Neg(), new(big.Int).Neg(x)},
		{q, wantQ},
		{r, wantR},
		{a, x},
		{b, y},
		{a.Gcd(b), new(big.Int).GCD(nil, nil, new(big.Int).Abs(x), new(big.Int).Abs(y))},
	} {
		if c.got.String() != c.want.String() {
			t.Errorf("%v and %v: value %d is %v, want %v", x, y, i, c.got, c.want)
		}
	}
}
