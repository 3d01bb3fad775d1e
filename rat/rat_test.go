package rat_test

import (
	"math/big"
	"math/rand"
	"strings"
	"testing"

	"abacist/api"
	"abacist/plain"
	"abacist/rat"
)

const half = api.MaxDigits / 2

var (
	greatest = strings.Repeat("9", api.MaxDigits)
	least    = "-" + strings.Repeat("9", api.MaxDigits-1)
	tooLong  = strings.Repeat("9", api.MaxDigits+1)
	tooLow   = "-" + strings.Repeat("9", api.MaxDigits)

	// Fractions with as many bytes as there may be, and with one more.
	longFraction    = strings.Repeat("7", half) + "/1" + strings.Repeat("0", half-2)
	lowFraction     = "-" + strings.Repeat("7", half-1) + "/1" + strings.Repeat("0", half-2)
	leastPositive   = "1/" + strings.Repeat("9", api.MaxDigits-2)
	tooLongFraction = "1/" + strings.Repeat("9", api.MaxDigits-1)
	tooLowFraction  = "-" + longFraction
)

// operation is a function of two arguments.
type operation struct {
	name string
	call func(a, b string) (string, error)
}

func operations() []operation {
	return []operation{
		{"Add", rat.Add},
		{"Mul", rat.Mul},
		{"Div", rat.Div},
		{"Less", func(a, b string) (string, error) {
			less, err := rat.Less(a, b)
			return truth(less), err
		}},
	}
}

func truth(is bool) string {
	if is {
		return "true"
	}
	return ""
}

func expect(t *testing.T, call, got string, err error, want string, wantErr api.Errno) {
	t.Helper()
	if got != want || plain.Told(err) != wantErr {
		t.Errorf("%s = %q, %v; want %q, %v", call, got, plain.Told(err), want, wantErr)
	}
}

func TestCheck(t *testing.T) {
	cases := []struct {
		a    string
		want api.Errno
	}{
		{"0", api.OK},
		{"1", api.OK},
		{"-1", api.OK},
		{"10", api.OK},
		{"1/2", api.OK},
		{"-1/2", api.OK},
		{"3/2", api.OK},
		{"-10/21", api.OK},
		{"4294967296/4294967295", api.OK},
		{greatest, api.OK},
		{least, api.OK},
		{longFraction, api.OK},
		{lowFraction, api.OK},
		{leastPositive, api.OK},
		{"", api.ErrForm},
		{"-", api.ErrForm},
		{"-0", api.ErrForm},
		{"00", api.ErrForm},
		{"01", api.ErrForm},
		{"+1", api.ErrForm},
		{"x", api.ErrForm},
		{"1.5", api.ErrForm},
		{"1e3", api.ErrForm},
		{" 1/2", api.ErrForm},
		{"1/2 ", api.ErrForm},
		{"1 /2", api.ErrForm},
		{"1/ 2", api.ErrForm},
		{"1/2\n", api.ErrForm},
		{"/", api.ErrForm},
		{"//", api.ErrForm},
		{"/2", api.ErrForm},
		{"1/", api.ErrForm},
		{"-/2", api.ErrForm},
		{"1//2", api.ErrForm},
		{"1/2/", api.ErrForm},
		{"1/2/3", api.ErrForm},
		{"/1/2", api.ErrForm},
		{"1\\2", api.ErrForm},
		{"1:2", api.ErrForm},
		{"+1/2", api.ErrForm},
		{"1/+2", api.ErrForm},
		{"1/-2", api.ErrForm},
		{"-1/-2", api.ErrForm},
		{"--1/2", api.ErrForm},
		{"01/2", api.ErrForm},
		{"-01/2", api.ErrForm},
		{"1/02", api.ErrForm},
		{"1/x", api.ErrForm},
		{"x/2", api.ErrForm},
		{"1\x00/2", api.ErrForm},
		// The denominator is not greater than 1.
		{"1/0", api.ErrForm},
		{"0/0", api.ErrForm},
		{"1/1", api.ErrForm},
		{"-1/1", api.ErrForm},
		{"7/1", api.ErrForm},
		{"1/-0", api.ErrForm},
		// The numerator is 0.
		{"0/1", api.ErrForm},
		{"0/2", api.ErrForm},
		{"-0/2", api.ErrForm},
		// Both have a common divisor.
		{"2/4", api.ErrForm},
		{"-2/4", api.ErrForm},
		{"6/3", api.ErrForm},
		{"-6/3", api.ErrForm},
		{"2/2", api.ErrForm},
		{"15/21", api.ErrForm},
		{"8589934592/4294967298", api.ErrForm},
		{strings.Repeat("9", half-1) + "/" + strings.Repeat("9", half-1), api.ErrForm},
		{strings.Repeat("x", api.MaxDigits), api.ErrForm},
		{strings.Repeat("/", api.MaxDigits), api.ErrForm},
		// All bytes count, the sign and the slash among them.
		{tooLong, api.ErrFull},
		{tooLow, api.ErrFull},
		{tooLongFraction, api.ErrFull},
		{tooLowFraction, api.ErrFull},
		{"0/" + strings.Repeat("9", api.MaxDigits-1), api.ErrFull},
		{strings.Repeat("x", api.MaxDigits+1), api.ErrFull},
		{strings.Repeat("/", api.MaxDigits+1), api.ErrFull},
		{"1/" + strings.Repeat("1", 1<<20), api.ErrFull},
	}
	for _, c := range cases {
		if got := plain.Told(rat.Check(c.a)); got != c.want {
			t.Errorf("Check(%.120q) = %v, want %v", c.a, got, c.want)
		}
	}
}

func TestErrorsOfArguments(t *testing.T) {
	cases := []struct {
		a, b string
		want api.Errno
	}{
		{"2/4", "1", api.ErrForm},
		{"1", "2/4", api.ErrForm},
		{"-0", "1", api.ErrForm},
		{"1", "1/0", api.ErrForm},
		{"", "", api.ErrForm},
		{"1", "", api.ErrForm},
		{tooLong, "1", api.ErrFull},
		{"1", tooLong, api.ErrFull},
		{tooLongFraction, "1/2", api.ErrFull},
		{"1/2", tooLowFraction, api.ErrFull},
		{"x", tooLow, api.ErrForm},
		{tooLow, "x", api.ErrFull},
		// Here the divisor is 0 as well.
		{"x", "0", api.ErrForm},
		{"1/1", "0", api.ErrForm},
		{tooLongFraction, "0", api.ErrFull},
		{"0", "0/2", api.ErrForm},
	}
	for _, o := range operations() {
		for _, c := range cases {
			got, err := o.call(c.a, c.b)
			expect(t, o.name+"("+c.a+", "+c.b+")", got, err, "", c.want)
		}
	}
}

func TestMake(t *testing.T) {
	cases := []struct {
		n, d, want string
		wantErr    api.Errno
	}{
		{"2", "-4", "-1/2", api.OK},
		{"-2", "-4", "1/2", api.OK},
		{"-2", "4", "-1/2", api.OK},
		{"2", "4", "1/2", api.OK},
		{"0", "5", "0", api.OK},
		{"0", "-5", "0", api.OK},
		{"5", "1", "5", api.OK},
		{"5", "-1", "-5", api.OK},
		{"6", "3", "2", api.OK},
		{"6", "-3", "-2", api.OK},
		{"-6", "-6", "1", api.OK},
		{"3", "6", "1/2", api.OK},
		{"7", "3", "7/3", api.OK},
		{"-15", "21", "-5/7", api.OK},
		{greatest, "-1", "-" + greatest, api.OK},
		{"1", greatest, "1/" + greatest, api.OK},
		{greatest, greatest, "1", api.OK},
		{greatest, least, "-" + strings.Repeat("1", api.MaxDigits) + "/" + strings.Repeat("1", api.MaxDigits-1), api.OK},
		{greatest, "-1" + strings.Repeat("0", api.MaxDigits-2), "-" + greatest + "/1" + strings.Repeat("0", api.MaxDigits-2), api.OK},
		{"0", "0", "", api.ErrZero},
		{"1", "0", "", api.ErrZero},
		{"-1", "0", "", api.ErrZero},
		// Only integers are divided.
		{"1/2", "1", "", api.ErrForm},
		{"1", "1/2", "", api.ErrForm},
		{"01", "1", "", api.ErrForm},
		{"1", "-0", "", api.ErrForm},
		{"", "", "", api.ErrForm},
		{tooLong, "1", "", api.ErrFull},
		{"1", tooLow, "", api.ErrFull},
		{"x", tooLow, "", api.ErrForm},
		{tooLow, "x", "", api.ErrFull},
		{"x", "0", "", api.ErrForm},
		{"1/2", "0", "", api.ErrForm},
		{tooLong, "0", "", api.ErrFull},
	}
	for _, c := range cases {
		got, err := rat.Make(c.n, c.d)
		expect(t, "Make("+c.n+", "+c.d+")", got, err, c.want, c.wantErr)
	}
}

func TestExamples(t *testing.T) {
	cases := []struct {
		a, b, sum, product, quotient, less string
		divErr                             api.Errno
	}{
		{"0", "0", "0", "0", "", "", api.ErrZero},
		{"1/2", "0", "1/2", "0", "", "", api.ErrZero},
		{"-1/2", "0", "-1/2", "0", "", "true", api.ErrZero},
		{"0", "1/2", "1/2", "0", "0", "true", api.OK},
		{"0", "-1/2", "-1/2", "0", "0", "", api.OK},
		{"1/2", "1/3", "5/6", "1/6", "3/2", "", api.OK},
		{"1/3", "1/2", "5/6", "1/6", "2/3", "true", api.OK},
		{"1/2", "-3/4", "-1/4", "-3/8", "-2/3", "", api.OK},
		{"-1/2", "-3/4", "-5/4", "3/8", "2/3", "", api.OK},
		{"-3/4", "-1/2", "-5/4", "3/8", "3/2", "true", api.OK},
		{"1/2", "1/2", "1", "1/4", "1", "", api.OK},
		{"-1/2", "1/2", "0", "-1/4", "-1", "true", api.OK},
		{"1/2", "-1/2", "0", "-1/4", "-1", "", api.OK},
		{"1/6", "1/3", "1/2", "1/18", "1/2", "true", api.OK},
		{"2/3", "3/2", "13/6", "1", "4/9", "true", api.OK},
		{"-2/3", "3/2", "5/6", "-1", "-4/9", "true", api.OK},
		{"5", "1/5", "26/5", "1", "25", "", api.OK},
		{"6", "4", "10", "24", "3/2", "", api.OK},
		{"4", "-6", "-2", "-24", "-2/3", "", api.OK},
		{greatest, "1", "1" + strings.Repeat("0", api.MaxDigits), greatest, greatest, "", api.OK},
		{leastPositive, leastPositive, "2/" + leastPositive[2:],
			"1/" + leastPositive[3:] + "8" + strings.Repeat("0", api.MaxDigits-3) + "1", "1", "", api.OK},
	}
	for _, c := range cases {
		want := []string{c.sum, c.product, c.quotient, c.less}
		wantErr := []api.Errno{api.OK, api.OK, c.divErr, api.OK}
		for i, o := range operations() {
			got, err := o.call(c.a, c.b)
			expect(t, o.name+"("+c.a+", "+c.b+")", got, err, want[i], wantErr[i])
		}
	}
}

func TestFloor(t *testing.T) {
	cases := []struct {
		a, want string
		wantErr api.Errno
	}{
		{"0", "0", api.OK},
		{"7", "7", api.OK},
		{"-7", "-7", api.OK},
		{"1/2", "0", api.OK},
		{"-1/2", "-1", api.OK},
		{"7/2", "3", api.OK},
		{"-7/2", "-4", api.OK},
		{"99/100", "0", api.OK},
		{"-99/100", "-1", api.OK},
		{"101/100", "1", api.OK},
		{"-101/100", "-2", api.OK},
		{leastPositive, "0", api.OK},
		{"-" + leastPositive[:api.MaxDigits-1], "-1", api.OK},
		{greatest, greatest, api.OK},
		{least, least, api.OK},
		{"4294967295/4294967296", "0", api.OK},
		{"-4294967297/4294967296", "-2", api.OK},
		{"", "", api.ErrForm},
		{"-0", "", api.ErrForm},
		{"2/4", "", api.ErrForm},
		{"1/0", "", api.ErrForm},
		{tooLong, "", api.ErrFull},
		{tooLowFraction, "", api.ErrFull},
	}
	for _, c := range cases {
		got, err := rat.Floor(c.a)
		expect(t, "Floor("+c.a+")", got, err, c.want, c.wantErr)
	}
}

// numbers returns numbers of at most api.MaxDigits bytes: small ones, those
// next to 1, those with parts next to the powers of 2 at which limbs end, the
// longest ones, and others of all sizes.
func numbers(t *testing.T) []*big.Rat {
	var list []*big.Rat
	add := func(top, bottom *big.Int) {
		list = append(list, new(big.Rat).SetFrac(top, bottom))
	}
	for bottom := int64(1); bottom <= 4; bottom++ {
		for top := int64(-5); top <= 5; top++ {
			add(big.NewInt(top), big.NewInt(bottom))
		}
	}
	one := big.NewInt(1)
	for _, bits := range []uint{32, 64, 96, 150} {
		power := new(big.Int).Lsh(one, bits)
		less, more := new(big.Int).Sub(power, one), new(big.Int).Add(power, one)
		add(less, power)
		add(power, less)
		add(more, power)
		add(new(big.Int).Neg(less), more)
		add(new(big.Int).Neg(more), less)
	}
	for _, text := range []string{greatest, least, longFraction, lowFraction, leastPositive} {
		x, ok := new(big.Rat).SetString(text)
		if !ok {
			t.Fatalf("%q is not a number", text)
		}
		list = append(list, x)
	}
	source := rand.New(rand.NewSource(5))
	for bits := uint(6); bits < 160; bits += 11 {
		size := new(big.Int).Lsh(one, bits)
		top, bottom := new(big.Int).Rand(source, size), new(big.Int).Rand(source, size)
		if source.Intn(2) > 0 {
			top.Neg(top)
		}
		add(top, bottom.Add(bottom, one))
	}
	return list
}

func TestAllPairs(t *testing.T) {
	list := numbers(t)
	for _, x := range list {
		a := x.RatString()
		if err := rat.Check(a); err != nil {
			t.Fatalf("Check(%s) = %v", a, err)
		}
		floor, err := rat.Floor(a)
		expect(t, "Floor("+a+")", floor, err, floorByBig(x), api.OK)
		for _, y := range list {
			b := y.RatString()
			for i, o := range operations() {
				want, wantErr := byBig(i, x, y)
				got, err := o.call(a, b)
				expect(t, o.name+"("+a+", "+b+")", got, err, want, wantErr)
			}
		}
	}
}

// byBig is the result of the operation with this index.
func byBig(operation int, x, y *big.Rat) (string, api.Errno) {
	switch operation {
	case 0:
		return new(big.Rat).Add(x, y).RatString(), api.OK
	case 1:
		return new(big.Rat).Mul(x, y).RatString(), api.OK
	case 2:
		if y.Sign() == 0 {
			return "", api.ErrZero
		}
		return new(big.Rat).Quo(x, y).RatString(), api.OK
	}
	return truth(x.Cmp(y) < 0), api.OK
}

func floorByBig(x *big.Rat) string {
	return new(big.Int).Div(x.Num(), x.Denom()).String()
}

func TestMakeOfAllPairs(t *testing.T) {
	for _, x := range numbers(t) {
		for _, y := range numbers(t) {
			n, d := x.Num(), y.Denom()
			if y.Sign() < 0 {
				d = new(big.Int).Neg(d)
			}
			got, err := rat.Make(n.String(), d.String())
			want := new(big.Rat).SetFrac(n, d).RatString()
			expect(t, "Make("+n.String()+", "+d.String()+")", got, err, want, api.OK)
		}
	}
}
