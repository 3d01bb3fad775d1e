package whole_test

import (
	"math/big"
	"math/rand"
	"strings"
	"testing"

	"abacist/api"
	"abacist/plain"
	"abacist/whole"
)

var (
	greatest = strings.Repeat("9", api.MaxDigits)
	least    = "-" + strings.Repeat("9", api.MaxDigits-1)
	tooLong  = strings.Repeat("9", api.MaxDigits+1)
	tooLow   = "-" + strings.Repeat("9", api.MaxDigits)
)

// operation is a function of two arguments, with all its results.
type operation struct {
	name string
	call func(a, b string) ([]string, error)
}

func operations() []operation {
	return []operation{
		{"Add", func(a, b string) ([]string, error) {
			sum, err := whole.Add(a, b)
			return []string{sum}, err
		}},
		{"Mul", func(a, b string) ([]string, error) {
			product, err := whole.Mul(a, b)
			return []string{product}, err
		}},
		{"Div", func(a, b string) ([]string, error) {
			q, r, err := whole.Div(a, b)
			return []string{q, r}, err
		}},
		{"Gcd", func(a, b string) ([]string, error) {
			g, x, y, err := whole.Gcd(a, b)
			return []string{g, x, y}, err
		}},
	}
}

// expect compares the results, joined by spaces; with an error, all are empty.
func (o operation) expect(t *testing.T, a, b, want string, wantErr api.Errno) {
	t.Helper()
	list, err := o.call(a, b)
	got := strings.Join(list, " ")
	if wantErr != api.OK {
		want = strings.Repeat(" ", len(list)-1)
	}
	if got != want || plain.Told(err) != wantErr {
		t.Errorf("%s(%q, %q) = %q, %v; want %q, %v", o.name, a, b, got, plain.Told(err), want, wantErr)
	}
}

func TestCheck(t *testing.T) {
	cases := []struct {
		a    string
		want api.Errno
	}{
		{"0", api.OK},
		{"1", api.OK},
		{"-1", api.OK},
		{"10", api.OK},
		{"-10", api.OK},
		{"-4294967296", api.OK},
		{greatest, api.OK},
		{least, api.OK},
		{"-1" + strings.Repeat("0", api.MaxDigits-2), api.OK},
		{"", api.ErrForm},
		{"-", api.ErrForm},
		{"-0", api.ErrForm},
		{"-00", api.ErrForm},
		{"-01", api.ErrForm},
		{"--1", api.ErrForm},
		{"-+1", api.ErrForm},
		{"+1", api.ErrForm},
		{"1-", api.ErrForm},
		{"-1-", api.ErrForm},
		{"1-1", api.ErrForm},
		{"- 1", api.ErrForm},
		{" -1", api.ErrForm},
		{"-1 ", api.ErrForm},
		{"-1\n", api.ErrForm},
		{"-1/2", api.ErrForm},
		{"-x", api.ErrForm},
		{"\u22121", api.ErrForm},
		{"00", api.ErrForm},
		{"01", api.ErrForm},
		{"1.0", api.ErrForm},
		{"\x00", api.ErrForm},
		{"-" + strings.Repeat("0", api.MaxDigits-1), api.ErrForm},
		{strings.Repeat("-", api.MaxDigits), api.ErrForm},
		{strings.Repeat("x", api.MaxDigits), api.ErrForm},
		// The sign is one of the bytes.
		{tooLow, api.ErrFull},
		{tooLong, api.ErrFull},
		{strings.Repeat("-", api.MaxDigits+1), api.ErrFull},
		{strings.Repeat("x", api.MaxDigits+1), api.ErrFull},
		{"-" + strings.Repeat("1", 1<<20), api.ErrFull},
	}
	for _, c := range cases {
		if got := plain.Told(whole.Check(c.a)); got != c.want {
			t.Errorf("Check(%.120q) = %v, want %v", c.a, got, c.want)
		}
	}
}

func TestErrorsOfArguments(t *testing.T) {
	cases := []struct {
		a, b string
		want api.Errno
	}{
		{"-0", "1", api.ErrForm},
		{"1", "-0", api.ErrForm},
		{"", "", api.ErrForm},
		{"1", "", api.ErrForm},
		{tooLong, "1", api.ErrFull},
		{"1", tooLong, api.ErrFull},
		{tooLow, "1", api.ErrFull},
		{"1", tooLow, api.ErrFull},
		{"x", tooLow, api.ErrForm},
		{tooLow, "x", api.ErrFull},
		// Here the divisor is 0 as well.
		{"x", "0", api.ErrForm},
		{tooLow, "0", api.ErrFull},
		{"0", "-0", api.ErrForm},
		{"0", "00", api.ErrForm},
	}
	for _, o := range operations() {
		for _, c := range cases {
			o.expect(t, c.a, c.b, "", c.want)
		}
	}
}

func TestExamples(t *testing.T) {
	cases := []struct {
		a, b, sum, product, div, gcd string
	}{
		{"0", "7", "7", "0", "0 0", "7 0 1"},
		{"0", "-7", "-7", "0", "0 0", "7 0 -1"},
		{"7", "2", "9", "14", "3 1", "1 1 -3"},
		{"7", "-2", "5", "-14", "-3 1", "1 1 3"},
		{"-7", "2", "-5", "-14", "-4 1", "1 1 4"},
		{"-7", "-2", "-9", "14", "4 1", "1 1 -4"},
		{"2", "7", "9", "14", "0 2", "1 -3 1"},
		{"2", "-7", "-5", "-14", "0 2", "1 4 1"},
		{"-2", "7", "5", "-14", "-1 5", "1 3 1"},
		{"-2", "-7", "-9", "14", "1 5", "1 3 -1"},
		{"6", "3", "9", "18", "2 0", "3 0 1"},
		{"6", "-3", "3", "-18", "-2 0", "3 0 -1"},
		{"-6", "3", "-3", "-18", "-2 0", "3 0 1"},
		{"-6", "-3", "-9", "18", "2 0", "3 0 -1"},
		{"12", "18", "30", "216", "0 12", "6 -1 1"},
		{"5", "5", "10", "25", "1 0", "5 0 1"},
		{"5", "-5", "0", "-25", "-1 0", "5 0 -1"},
		{"-5", "5", "0", "-25", "-1 0", "5 0 1"},
		{"-5", "-5", "-10", "25", "1 0", "5 0 -1"},
		{"-1", "4294967296", "4294967295", "-4294967296", "-1 4294967295", "1 -1 0"},
		{greatest, "1", "1" + strings.Repeat("0", api.MaxDigits), greatest, greatest + " 0", "1 0 1"},
		{least, "-1", "-1" + strings.Repeat("0", api.MaxDigits-1), least[1:], least[1:] + " 0", "1 0 -1"},
		{least, greatest, "9" + strings.Repeat("0", api.MaxDigits-1),
			"-" + least[2:] + "89" + strings.Repeat("0", api.MaxDigits-2) + "1",
			"-1 9" + strings.Repeat("0", api.MaxDigits-1), "9 10 1"},
	}
	for _, c := range cases {
		for i, want := range []string{c.sum, c.product, c.div, c.gcd} {
			operations()[i].expect(t, c.a, c.b, want, api.OK)
		}
	}
}

func TestZeroDivisor(t *testing.T) {
	cases := []struct{ a, product, gcd string }{
		{"0", "0", "0 0 0"},
		{"1", "0", "1 1 0"},
		{"-1", "0", "1 -1 0"},
		{"7", "0", "7 1 0"},
		{"-7", "0", "7 -1 0"},
		{greatest, "0", greatest + " 1 0"},
		{least, "0", least[1:] + " -1 0"},
	}
	for _, c := range cases {
		operations()[0].expect(t, c.a, "0", c.a, api.OK)
		operations()[1].expect(t, c.a, "0", c.product, api.OK)
		operations()[2].expect(t, c.a, "0", "", api.ErrZero)
		operations()[3].expect(t, c.a, "0", c.gcd, api.OK)
	}
}

// integers returns integers of at most api.MaxDigits bytes: all small ones,
// those next to the powers of 2 at which limbs end and next to powers of 10,
// the longest ones, two successive Fibonacci numbers, for which the Euclidean
// algorithm takes longest, and others of all sizes.
func integers() []*big.Int {
	var list []*big.Int
	for n := int64(0); n < 14; n++ {
		list = append(list, big.NewInt(n))
	}
	for _, bits := range []uint{32, 64, 96, 320} {
		for n := int64(-1); n <= 1; n++ {
			x := new(big.Int).Lsh(big.NewInt(1), bits)
			list = append(list, x.Add(x, big.NewInt(n)))
		}
	}
	for _, text := range []string{greatest, least[1:], "1" + strings.Repeat("0", api.MaxDigits-2)} {
		x, _ := new(big.Int).SetString(text, 10)
		list = append(list, x)
	}
	f, g := big.NewInt(0), big.NewInt(1)
	for len(g.String()) < api.MaxDigits {
		f, g = g, new(big.Int).Add(f, g)
	}
	list = append(list, f, g)
	source := rand.New(rand.NewSource(3))
	for bits := uint(5); bits < 329; bits += 18 {
		list = append(list, new(big.Int).Rand(source, new(big.Int).Lsh(big.NewInt(1), bits)))
	}
	return withNegatives(list)
}

func withNegatives(list []*big.Int) []*big.Int {
	all := list
	for _, x := range list {
		if y := new(big.Int).Neg(x); x.Sign() > 0 && len(y.String()) <= api.MaxDigits {
			all = append(all, y)
		}
	}
	return all
}

func TestAllPairs(t *testing.T) {
	list := integers()
	for _, x := range list {
		if err := whole.Check(x.String()); err != nil {
			t.Fatalf("Check(%v) = %v", x, err)
		}
		for _, y := range list {
			for i, o := range operations() {
				want, wantErr := byBig(i, x, y)
				o.expect(t, x.String(), y.String(), want, wantErr)
			}
		}
	}
}

// byBig is the result of the operation with this index.
func byBig(operation int, x, y *big.Int) (string, api.Errno) {
	switch operation {
	case 0:
		return new(big.Int).Add(x, y).String(), api.OK
	case 1:
		return new(big.Int).Mul(x, y).String(), api.OK
	case 2:
		if y.Sign() == 0 {
			return "", api.ErrZero
		}
		q, r := new(big.Int).DivMod(x, y, new(big.Int))
		return q.String() + " " + r.String(), api.OK
	}
	g, u, v := gcdByBig(x, y)
	return g.String() + " " + u.String() + " " + v.String(), api.OK
}

// gcdByBig works forwards, with the cofactors of each remainder, and so in
// another way than the program.
func gcdByBig(a, b *big.Int) (g, x, y *big.Int) {
	x, y = big.NewInt(1), big.NewInt(0)
	nextX, nextY := big.NewInt(0), big.NewInt(1)
	for b.Sign() != 0 {
		q, r := new(big.Int).DivMod(a, b, new(big.Int))
		a, b = b, r
		x, nextX = nextX, new(big.Int).Sub(x, new(big.Int).Mul(q, nextX))
		y, nextY = nextY, new(big.Int).Sub(y, new(big.Int).Mul(q, nextY))
	}
	sign := big.NewInt(int64(a.Sign()))
	return new(big.Int).Abs(a), x.Mul(x, sign), y.Mul(y, sign)
}

func TestGcdIsMadeOfBoth(t *testing.T) {
	list := integers()
	for _, a := range list {
		for _, b := range list {
			g, x, y, err := whole.Gcd(a.String(), b.String())
			want := new(big.Int).GCD(nil, nil, new(big.Int).Abs(a), new(big.Int).Abs(b)).String()
			if g != want || err != nil || madeOf(t, a, x, b, y) != want {
				t.Errorf("Gcd(%v, %v) = %q, %q, %q, %v; want %v", a, b, g, x, y, err, want)
			}
		}
	}
}

// madeOf is x*a + y*b.
func madeOf(t *testing.T, a *big.Int, x string, b *big.Int, y string) string {
	t.Helper()
	u, okX := new(big.Int).SetString(x, 10)
	v, okY := new(big.Int).SetString(y, 10)
	if !okX || !okY {
		t.Fatalf("Gcd(%v, %v): %q or %q is not an integer", a, b, x, y)
	}
	u.Mul(u, a)
	return u.Add(u, v.Mul(v, b)).String()
}
