package nat_test

import (
	"math/big"
	"math/rand"
	"strings"
	"testing"

	"abacist/api"
	"abacist/nat"
	"abacist/plain"
)

var (
	longest = strings.Repeat("9", api.MaxDigits)
	tooLong = strings.Repeat("9", api.MaxDigits+1)
)

// operation is a function of two arguments whose results are joined by a space.
type operation struct {
	name string
	call func(a, b string) (string, error)
}

func operations() []operation {
	return []operation{
		{"Add", nat.Add},
		{"Sub", nat.Sub},
		{"Mul", nat.Mul},
		{"Div", func(a, b string) (string, error) {
			q, r, err := nat.Div(a, b)
			return strings.TrimSpace(q + " " + r), err
		}},
		{"Less", func(a, b string) (string, error) {
			less, err := nat.Less(a, b)
			if less {
				return "true", err
			}
			return "", err
		}},
	}
}

func expect(t *testing.T, call, got string, err error, want string, wantErr api.Errno) {
	t.Helper()
	if got != want || plain.Told(err) != wantErr {
		t.Errorf("%s = %q, %v; want %q, %v", call, got, plain.Told(err), want, wantErr)
	}
}

func TestCheck(t *testing.T) {
	cases := []struct {
		a    string
		want api.Errno
	}{
		{"0", api.OK},
		{"1", api.OK},
		{"9", api.OK},
		{"10", api.OK},
		{"1000000000", api.OK},
		{longest, api.OK},
		{"1" + strings.Repeat("0", api.MaxDigits-1), api.OK},
		{"", api.ErrForm},
		{"00", api.ErrForm},
		{"01", api.ErrForm},
		{"-1", api.ErrForm},
		{"-0", api.ErrForm},
		{"+1", api.ErrForm},
		{" 1", api.ErrForm},
		{"1 ", api.ErrForm},
		{"1\n", api.ErrForm},
		{"1/1", api.ErrForm},
		{"1:", api.ErrForm},
		{"/", api.ErrForm},
		{":", api.ErrForm},
		{"1.0", api.ErrForm},
		{"1e3", api.ErrForm},
		{"1_0", api.ErrForm},
		{"0x1", api.ErrForm},
		{"a", api.ErrForm},
		{"\x00", api.ErrForm},
		{"1\x00", api.ErrForm},
		{"\xb1", api.ErrForm},
		{"\u0661", api.ErrForm},
		{strings.Repeat("0", api.MaxDigits), api.ErrForm},
		{strings.Repeat("x", api.MaxDigits), api.ErrForm},
		{longest[1:] + "x", api.ErrForm},
		{tooLong, api.ErrFull},
		{strings.Repeat("0", api.MaxDigits+1), api.ErrFull},
		{strings.Repeat("x", api.MaxDigits+1), api.ErrFull},
		{strings.Repeat("1", 1<<20), api.ErrFull},
	}
	for _, c := range cases {
		if got := plain.Told(nat.Check(c.a)); got != c.want {
			t.Errorf("Check(%.120q) = %v, want %v", c.a, got, c.want)
		}
	}
}

func TestErrorsOfArguments(t *testing.T) {
	cases := []struct {
		a, b string
		want api.Errno
	}{
		{"01", "1", api.ErrForm},
		{"1", "01", api.ErrForm},
		{"", "", api.ErrForm},
		{tooLong, "1", api.ErrFull},
		{"1", tooLong, api.ErrFull},
		{"x", tooLong, api.ErrForm},
		{tooLong, "x", api.ErrFull},
		// Here the difference would be negative, or the divisor is 0, as well.
		{"x", "0", api.ErrForm},
		{"01", "2", api.ErrForm},
		{tooLong, "0", api.ErrFull},
		{"0", "00", api.ErrForm},
		{"1", "-2", api.ErrForm},
	}
	for _, o := range operations() {
		for _, c := range cases {
			got, err := o.call(c.a, c.b)
			expect(t, o.name+"("+c.a+", "+c.b+")", got, err, "", c.want)
		}
	}
}

func TestExamples(t *testing.T) {
	cases := []struct {
		a, b                     string
		sum, diff, product, less string
		div                      string
		diffErr, divErr          api.Errno
	}{
		{"0", "0", "0", "0", "0", "", "", api.OK, api.ErrZero},
		{"1", "0", "1", "1", "0", "", "", api.OK, api.ErrZero},
		{"0", "1", "1", "", "0", "true", "0 0", api.ErrRange, api.OK},
		{"7", "2", "9", "5", "14", "", "3 1", api.OK, api.OK},
		{"2", "7", "9", "", "14", "true", "0 2", api.ErrRange, api.OK},
		{"7", "7", "14", "0", "49", "", "1 0", api.OK, api.OK},
		{"10", "9", "19", "1", "90", "", "1 1", api.OK, api.OK},
		{"9", "10", "19", "", "90", "true", "0 9", api.ErrRange, api.OK},
		{"4294967296", "1", "4294967297", "4294967295", "4294967296", "", "4294967296 0", api.OK, api.OK},
		{"1000000000", "1000000000", "2000000000", "0", "1000000000000000000", "", "1 0", api.OK, api.OK},
		{longest, "1", "1" + strings.Repeat("0", api.MaxDigits), longest[1:] + "8", longest, "", longest + " 0", api.OK, api.OK},
		{longest, longest, "1" + longest[1:] + "8", "0", longest[1:] + "8" + strings.Repeat("0", api.MaxDigits-1) + "1", "", "1 0", api.OK, api.OK},
	}
	for _, c := range cases {
		want := []string{c.sum, c.diff, c.product, c.div, c.less}
		wantErr := []api.Errno{api.OK, c.diffErr, api.OK, c.divErr, api.OK}
		for i, o := range operations() {
			got, err := o.call(c.a, c.b)
			expect(t, o.name+"("+c.a+", "+c.b+")", got, err, want[i], wantErr[i])
		}
	}
}

// numbers returns numbers of at most api.MaxDigits digits: those next to the
// powers of 2 at which limbs end and next to powers of 10, two pairs for which
// long division has to correct its guess, and others of all sizes.
func numbers() []*big.Int {
	one := big.NewInt(1)
	list := []*big.Int{new(big.Int), one, big.NewInt(2), big.NewInt(3)}
	near := func(x *big.Int) {
		list = append(list, new(big.Int).Sub(x, one), x, new(big.Int).Add(x, one))
	}
	for _, n := range []uint{31, 32, 33, 63, 64, 65, 96, 127, 128, 160, 319, 320, 331} {
		near(new(big.Int).Lsh(one, n))
	}
	for _, n := range []int64{8, 9, 10, 17, 18, 19, 27, 50, 99} {
		near(new(big.Int).Exp(big.NewInt(10), big.NewInt(n), nil))
	}
	for _, text := range []string{
		"7fffffff800000000000000000000000", "800000000000000000000001",
		"800000000000000000000003", "200000000000000000000001",
		"fffffffeffffffff00000000", "ffffffffffffffff",
		"80000000fffffffe00000000", "80000000ffffffff",
	} {
		x, _ := new(big.Int).SetString(text, 16)
		list = append(list, x)
	}
	source := rand.New(rand.NewSource(1))
	for n := uint(4); n < 332; n += 9 {
		list = append(list, new(big.Int).Rand(source, new(big.Int).Lsh(one, n)))
	}
	return list
}

func TestAllPairs(t *testing.T) {
	list := numbers()
	for _, x := range list {
		if err := nat.Check(x.String()); err != nil {
			t.Fatalf("Check(%v) = %v", x, err)
		}
		for _, y := range list {
			for i, o := range operations() {
				want, wantErr := byBig(i, x, y)
				got, err := o.call(x.String(), y.String())
				expect(t, o.name+"("+x.String()+", "+y.String()+")", got, err, want, wantErr)
			}
		}
	}
}

// byBig is the result of the operation with this index.
func byBig(operation int, x, y *big.Int) (string, api.Errno) {
	less := x.Cmp(y) < 0
	switch operation {
	case 0:
		return new(big.Int).Add(x, y).String(), api.OK
	case 1:
		if less {
			return "", api.ErrRange
		}
		return new(big.Int).Sub(x, y).String(), api.OK
	case 2:
		return new(big.Int).Mul(x, y).String(), api.OK
	case 3:
		if y.Sign() == 0 {
			return "", api.ErrZero
		}
		q, r := new(big.Int).QuoRem(x, y, new(big.Int))
		return q.String() + " " + r.String(), api.OK
	}
	if less {
		return "true", api.OK
	}
	return "", api.OK
}
