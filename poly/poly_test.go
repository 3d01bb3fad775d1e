package poly_test

import (
	"math/big"
	"math/rand"
	"slices"
	"strings"
	"testing"

	"abacist/api"
	"abacist/plain"
	"abacist/poly"
)

var (
	greatest        = strings.Repeat("9", api.MaxDigits)
	least           = "-" + strings.Repeat("9", api.MaxDigits-1)
	tooLong         = strings.Repeat("9", api.MaxDigits+1)
	tooLow          = "-" + strings.Repeat("9", api.MaxDigits)
	leastPositive   = "1/" + strings.Repeat("9", api.MaxDigits-2)
	tooLongFraction = "1/" + strings.Repeat("9", api.MaxDigits-1)
)

// from reads a polynomial that is written as its coefficients with spaces in
// between.
func from(text string) []string {
	return strings.Fields(text)
}

// operation is a function of a polynomial and, for all but Deriv, of one more
// argument: a polynomial or, if number is true, a number. Its results are those
// of Check (none), of Div (two) or of the others (one).
type operation struct {
	name   string
	number bool
	call   func(p, q []string) ([][]string, error)
}

func one(l []string, err error) ([][]string, error) {
	return [][]string{l}, err
}

func operations() []operation {
	return []operation{
		{"Add", false, func(p, q []string) ([][]string, error) { return one(poly.Add(p, q)) }},
		{"Mul", false, func(p, q []string) ([][]string, error) { return one(poly.Mul(p, q)) }},
		{"Div", false, func(p, q []string) ([][]string, error) {
			quotient, rest, err := poly.Div(p, q)
			return [][]string{quotient, rest}, err
		}},
		{"Eval", true, func(p, x []string) ([][]string, error) {
			value, err := poly.Eval(p, x[0])
			if err != nil && value == "" {
				return nil, err
			}
			return [][]string{{value}}, err
		}},
		{"Shift", true, func(p, a []string) ([][]string, error) { return one(poly.Shift(p, a[0])) }},
	}
}

// expectError wants this error of all results, which are empty.
func (o operation) expectError(t *testing.T, p, q []string, want api.Errno) {
	t.Helper()
	got, err := o.call(p, q)
	if len(slices.Concat(got...)) > 0 || plain.Told(err) != want {
		t.Errorf("%s(%q, %q) = %q, %v; want %v", o.name, p, q, got, plain.Told(err), want)
	}
}

func expect(t *testing.T, call string, got []string, err error, want string) {
	t.Helper()
	if !slices.Equal(got, from(want)) || err != nil {
		t.Errorf("%s = %q, %v; want %s", call, got, plain.Told(err), want)
	}
}

func expectDiv(t *testing.T, p, q, quotient, rest string) {
	t.Helper()
	x, y, err := poly.Div(from(p), from(q))
	if !slices.Equal(x, from(quotient)) || !slices.Equal(y, from(rest)) || err != nil {
		t.Errorf("Div(%s, %s) = %q, %q, %v; want %s and %s", p, q, x, y, plain.Told(err), quotient, rest)
	}
}

// right has polynomials without an error.
func right() []string {
	return []string{
		"", "1", "-1", "1/2", greatest, least, leastPositive,
		"0 1", "0 0 -1", "1 1", "1/2 -2/3 3/4", "0 0 0 0 0 0 0 0 1", "1 0 0 0 0 0 0 0 -1/2",
		"1 2 3 4 5 6 7 8 9", "9 8 7 6 5 4 3 2 1",
		strings.Repeat(greatest+" ", api.MaxCoeffs), strings.Repeat(leastPositive+" ", api.MaxCoeffs),
	}
}

// wrong has lists that are no polynomials.
func wrong() []struct {
	p    []string
	want api.Errno
} {
	full := slices.Repeat([]string{"1"}, api.MaxCoeffs+1)
	return []struct {
		p    []string
		want api.Errno
	}{
		{[]string{""}, api.ErrForm},
		{[]string{"x"}, api.ErrForm},
		{[]string{"1", ""}, api.ErrForm},
		{[]string{"", "1"}, api.ErrForm},
		{[]string{"1", "-0", "1"}, api.ErrForm},
		{[]string{"01"}, api.ErrForm},
		{[]string{"1", "2/4"}, api.ErrForm},
		{[]string{"1/0", "1"}, api.ErrForm},
		{[]string{"1", "3/1", "1"}, api.ErrForm},
		{[]string{"0.5", "1"}, api.ErrForm},
		{[]string{"1 2"}, api.ErrForm},
		{[]string{"1", " 2"}, api.ErrForm},
		{[]string{tooLong}, api.ErrFull},
		{[]string{"1", tooLow}, api.ErrFull},
		{[]string{tooLongFraction, "1"}, api.ErrFull},
		{[]string{"1", "1", "1", "1", "1", "1", "1", "1", "x"}, api.ErrForm},
		{[]string{"1", "1", "1", "1", "1", "1", "1", "1", tooLong}, api.ErrFull},
		// The last one is 0.
		{[]string{"0"}, api.ErrForm},
		{[]string{"1", "0"}, api.ErrForm},
		{[]string{"0", "0"}, api.ErrForm},
		{[]string{"1", "2", "3", "4", "5", "6", "7", "8", "0"}, api.ErrForm},
		// There are too many, whatever they are.
		{full, api.ErrFull},
		{slices.Repeat([]string{"0"}, api.MaxCoeffs+1), api.ErrFull},
		{slices.Repeat([]string{"x"}, api.MaxCoeffs+1), api.ErrFull},
		{append([]string{"x"}, full...), api.ErrFull},
		{append(slices.Clone(full), "0"), api.ErrFull},
		{make([]string, 1<<20), api.ErrFull},
		// What is wrong with a coefficient comes before what is wrong with the
		// next one, and before a last one that is 0.
		{[]string{"x", tooLong}, api.ErrForm},
		{[]string{tooLong, "x"}, api.ErrFull},
		{[]string{tooLong, "0"}, api.ErrFull},
		{[]string{"0", tooLong, "0"}, api.ErrFull},
		{[]string{"0", "x", tooLong, "0"}, api.ErrForm},
		{[]string{strings.Repeat("0", api.MaxDigits+1)}, api.ErrFull},
	}
}

func TestCheck(t *testing.T) {
	for _, p := range right() {
		if err := poly.Check(from(p)); err != nil {
			t.Errorf("Check(%s) = %v", p, err)
		}
	}
	if err := poly.Check(nil); err != nil {
		t.Errorf("Check(nil) = %v", err)
	}
	for _, c := range wrong() {
		if got := plain.Told(poly.Check(c.p)); got != c.want {
			t.Errorf("Check(%.200q) = %v, want %v", c.p, got, c.want)
		}
	}
}

func TestErrorsOfPolynomials(t *testing.T) {
	// Second polynomials and numbers with errors of all kinds, which the first
	// polynomial conceals, and the zero polynomial.
	polynomials := [][]string{{"1"}, nil, {"x"}, {"0"}, {tooLong}, make([]string, api.MaxCoeffs+1)}
	numbers := [][]string{{"1"}, {"0"}, {"x"}, {"2/4"}, {tooLong}}
	for _, c := range wrong() {
		for _, o := range operations() {
			others := polynomials
			if o.number {
				others = numbers
			}
			for _, q := range others {
				o.expectError(t, c.p, q, c.want)
			}
			if !o.number {
				for _, p := range right() {
					o.expectError(t, from(p), c.p, c.want)
				}
			}
		}
		slope, err := poly.Deriv(c.p)
		if len(slope) > 0 || plain.Told(err) != c.want {
			t.Errorf("Deriv(%.200q) = %q, %v; want %v", c.p, slope, plain.Told(err), c.want)
		}
	}
}

func TestErrorsOfNumbers(t *testing.T) {
	for _, c := range []struct {
		x    string
		want api.Errno
	}{
		{"", api.ErrForm},
		{"x", api.ErrForm},
		{"-0", api.ErrForm},
		{"01", api.ErrForm},
		{"2/4", api.ErrForm},
		{"0/2", api.ErrForm},
		{"1/0", api.ErrForm},
		{tooLong, api.ErrFull},
		{tooLow, api.ErrFull},
		{tooLongFraction, api.ErrFull},
	} {
		for _, o := range operations() {
			for _, p := range right() {
				if o.number {
					o.expectError(t, from(p), []string{c.x}, c.want)
				}
			}
		}
	}
}

func TestZeroDivisor(t *testing.T) {
	for _, p := range right() {
		for _, zero := range [][]string{nil, {}} {
			operations()[2].expectError(t, from(p), zero, api.ErrZero)
		}
	}
}

func TestAddAndMul(t *testing.T) {
	for _, c := range []struct{ p, q, sum, product string }{
		{"", "", "", ""},
		{"1", "", "1", ""},
		{"1 2 3", "", "1 2 3", ""},
		{"1", "2", "3", "2"},
		{"1 1", "-1 1", "0 2", "-1 0 1"},
		{"1 1", "1 1", "2 2", "1 2 1"},
		{"1 2 3", "4", "5 2 3", "4 8 12"},
		{"1 2", "3 4 5", "4 6 5", "3 10 13 10"},
		{"0 1", "0 0 1", "0 1 1", "0 0 0 1"},
		{"1/2 1/3", "1/2 2/3", "1 1", "1/4 1/2 2/9"},
		{"2/3", "3/2 -3/2", "13/6 -3/2", "1 -1"},
		{"1 -1", "1 1 1", "2 0 1", "1 0 0 -1"},
		// Leading coefficients cancel each other, some or all of them.
		{"1 2", "1 -2", "2", "1 0 -4"},
		{"1 2 3", "1 1 -3", "2 3", "1 3 2 -3 -9"},
		{"1 2 3", "4 -2 -3", "5", "4 6 5 -12 -9"},
		{"1 1/2", "-1 -1/2", "", "-1 -1 -1/4"},
		{"0 0 0 1", "1 0 0 -1", "1", "0 0 0 1 0 0 -1"},
		{
			"1 1 1 1 1 1 1 1 1", "1 1 1 1 1 1 1 1 1", "2 2 2 2 2 2 2 2 2",
			"1 2 3 4 5 6 7 8 9 8 7 6 5 4 3 2 1",
		},
		{"0 0 0 0 0 0 0 0 2", "0 0 0 0 0 0 0 0 3", "0 0 0 0 0 0 0 0 5", "0 0 0 0 0 0 0 0 0 0 0 0 0 0 0 0 6"},
	} {
		for _, both := range [][2]string{{c.p, c.q}, {c.q, c.p}} {
			sum, err := poly.Add(from(both[0]), from(both[1]))
			expect(t, "Add("+both[0]+", "+both[1]+")", sum, err, c.sum)
			product, err := poly.Mul(from(both[0]), from(both[1]))
			expect(t, "Mul("+both[0]+", "+both[1]+")", product, err, c.product)
		}
	}
}

func TestDiv(t *testing.T) {
	for _, c := range []struct{ p, q, quotient, rest string }{
		{"1 0 1", "1 1", "-1 1", "2"},
		{"-1 0 1", "1 1", "-1 1", ""},
		{"", "1", "", ""},
		{"", "1 1", "", ""},
		{"1", "2", "1/2", ""},
		{"1 2 3", "2", "1/2 1 3/2", ""},
		{"1 2 3", "-1/3", "-3 -6 -9", ""},
		{"1", "0 1", "", "1"},
		{"1 2 3", "0 0 0 1", "", "1 2 3"},
		{"1 2 3", "0 1", "2 3", "1"},
		{"1 2 3", "0 0 1", "3", "1 2"},
		{"1 2 3", "1 2 3", "1", ""},
		{"2 4 6", "1 2 3", "2", ""},
		{"1 0 0 0 0 0 0 0 1", "1 0 1", "-1 0 1 0 -1 0 1", "2"},
		{"-1 0 0 0 0 0 0 0 1", "-1 1", "1 1 1 1 1 1 1 1", ""},
		{"0 0 0 1", "1 2", "1/8 -1/4 1/2", "-1/8"},
		{"1 1 1 1", "1 0 1", "1 1", ""},
		{"1 2 1 1", "1 0 1", "1 1", "0 1"},
		{"-3/2 1/2 1/3", "3 2", "0 1/6", "-3/2"},
		// The quotient has coefficients that are 0, at its start and inside.
		{"1 0 1 0 1", "0 0 1", "1 0 1", "1"},
		{"0 0 0 0 1", "0 1", "0 0 0 1", ""},
		// The remainder has two coefficients less than the divisor.
		{"5 0 1", "0 0 1", "1", "5"},
		{"7 0 0 0 1 2", "0 0 0 1", "0 1 2", "7"},
	} {
		expectDiv(t, c.p, c.q, c.quotient, c.rest)
	}
}

func TestEval(t *testing.T) {
	for _, c := range []struct{ p, x, want string }{
		{"1 2 3", "1/2", "11/4"},
		{"1 2 3", "0", "1"},
		{"1 2 3", "1", "6"},
		{"1 2 3", "-1", "2"},
		{"1 2 3", "10", "321"},
		{"", "0", "0"},
		{"", "5", "0"},
		{"-7/3", "5", "-7/3"},
		{"-7/3", "0", "-7/3"},
		{"-1 0 1", "1", "0"},
		{"-1/4 0 1", "-1/2", "0"},
		{"0 1", "-2/3", "-2/3"},
		{"0 0 0 0 0 0 0 0 1", "2", "256"},
		{"0 0 0 0 0 0 0 0 1", "-1/2", "1/256"},
		{"9 8 7 6 5 4 3 2 1", "10", "123456789"},
		{"1 1 1 1 1 1 1 1 1", "-1", "1"},
		{"1/2 1/3 1/4", "2/5", "101/150"},
	} {
		value, err := poly.Eval(from(c.p), c.x)
		expect(t, "Eval("+c.p+", "+c.x+")", []string{value}, err, c.want)
	}
}

func TestDeriv(t *testing.T) {
	for _, c := range []struct{ p, want string }{
		{"1 2 3", "2 6"},
		{"", ""},
		{"1", ""},
		{"-1/2", ""},
		{"0 1", "1"},
		{"1 -1/2", "-1/2"},
		{"1 1/2 1/2 1/3", "1/2 1 1"},
		{"5 0 0 1", "0 0 3"},
		{"0 0 0 0 1/4", "0 0 0 1"},
		{"1 2 3 4 5 6 7 8 9", "2 6 12 20 30 42 56 72"},
		{"1 1 1/2 1/6 1/24", "1 1 1/2 1/6"},
	} {
		slope, err := poly.Deriv(from(c.p))
		expect(t, "Deriv("+c.p+")", slope, err, c.want)
	}
}

func TestShift(t *testing.T) {
	for _, c := range []struct{ p, a, want string }{
		{"0 0 1", "1", "1 2 1"},
		{"0 0 1", "-1", "1 -2 1"},
		{"0 0 1", "1/2", "1/4 1 1"},
		{"1 2 3", "0", "1 2 3"},
		{"1 2 3", "1", "6 8 3"},
		{"1 2 3", "-1", "2 -4 3"},
		{"", "0", ""},
		{"", "3", ""},
		{"-2/3", "0", "-2/3"},
		{"-2/3", "5", "-2/3"},
		{"5 1", "-5", "0 1"},
		{"1 2 1", "-1", "0 0 1"},
		{"0 1/2", "1/3", "1/6 1/2"},
		{"0 0 0 1", "2", "8 12 6 1"},
		{"0 0 0 0 0 0 0 0 1", "1", "1 8 28 56 70 56 28 8 1"},
		{"1 -8 28 -56 70 -56 28 -8 1", "1", "0 0 0 0 0 0 0 0 1"},
	} {
		shifted, err := poly.Shift(from(c.p), c.a)
		expect(t, "Shift("+c.p+", "+c.a+")", shifted, err, c.want)
	}
}

// TestLongResults has coefficients that are longer than those of arguments may
// be.
func TestLongResults(t *testing.T) {
	nines := strings.Repeat("9", api.MaxDigits-1)
	square := nines + "8" + strings.Repeat("0", api.MaxDigits-1) + "1"
	sum, err := poly.Add(from("1 "+greatest), from("1 1"))
	expect(t, "Add", sum, err, "2 1"+strings.Repeat("0", api.MaxDigits))
	product, err := poly.Mul(from("0 "+greatest), from("0 "+greatest))
	expect(t, "Mul", product, err, "0 0 "+square)
	value, err := poly.Eval(from("0 0 1"), greatest)
	expect(t, "Eval", []string{value}, err, square)
	slope, err := poly.Deriv(from("0 0 " + greatest))
	expect(t, "Deriv", slope, err, "0 1"+nines+"8")
	shifted, err := poly.Shift(from("0 0 1"), greatest)
	expect(t, "Shift", shifted, err, square+" 1"+nines+"8 1")
	expectDiv(t, "0 "+greatest, leastPositive, "0 "+strings.Repeat("9", api.MaxDigits-3)+"8"+"99"+strings.Repeat("0", api.MaxDigits-3)+"1", "")
	expectDiv(t, "0 0 1", greatest+" 1", "-"+greatest+" 1", square)
}

// TestArgumentsAreKept looks at the arguments, and at the memory behind their
// length, after all results have been overwritten.
func TestArgumentsAreKept(t *testing.T) {
	spare := func(text string) []string {
		return append(from(text), "behind", "it")[:len(from(text))]
	}
	for _, p := range right() {
		for _, q := range []string{"1", "-1/2 1", p} {
			for _, o := range operations() {
				x, y := spare(p), spare(q)
				if o.number {
					y = spare("2/3")
				}
				wantX, wantY := slices.Clone(x[:cap(x)]), slices.Clone(y[:cap(y)])
				got, _ := o.call(x, y)
				if o.number {
					slope, _ := poly.Deriv(x)
					got = append(got, slope)
				}
				overwrite(t, o.name, got)
				if !slices.Equal(x[:cap(x)], wantX) || !slices.Equal(y[:cap(y)], wantY) {
					t.Errorf("%s(%s, %s) changes an argument", o.name, p, q)
				}
			}
		}
	}
}

// overwrite changes one list after the other, with the memory behind its
// length, and looks whether a later one has changed with it.
func overwrite(t *testing.T, name string, lists [][]string) {
	t.Helper()
	for i, l := range lists {
		l = l[:cap(l)]
		for j := range l {
			if l[j] == "overwritten" {
				t.Errorf("result %d of %s shares memory with another one", i, name)
			}
			l[j] = "overwritten"
		}
	}
}

// fractions are the coefficients of a polynomial; its methods find results
// without the methods that are tested.
type fractions []*big.Rat

func read(t *testing.T, texts []string) fractions {
	t.Helper()
	var p fractions
	for _, text := range texts {
		c, ok := new(big.Rat).SetString(text)
		if !ok || c.RatString() != text {
			t.Fatalf("%q is not a number", text)
		}
		p = append(p, c)
	}
	if n := len(p); n > 0 && p[n-1].Sign() == 0 {
		t.Fatalf("%q ends with 0", texts)
	}
	return p
}

func (p fractions) texts() []string {
	var texts []string
	for _, c := range p {
		texts = append(texts, c.RatString())
	}
	for len(texts) > 0 && texts[len(texts)-1] == "0" {
		texts = texts[:len(texts)-1]
	}
	return texts
}

// add adds factor times q, as many places to the right as shift says.
func (p fractions) add(q fractions, factor *big.Rat, shift int) fractions {
	sum := slices.Clone(p)
	for len(sum) < len(q)+shift {
		sum = append(sum, new(big.Rat))
	}
	for i, c := range q {
		more := new(big.Rat).Mul(c, factor)
		sum[i+shift] = more.Add(more, sum[i+shift])
	}
	return sum
}

func (p fractions) mul(q fractions) fractions {
	var product fractions
	for i, c := range p {
		product = product.add(q, c, i)
	}
	return product
}

func (p fractions) at(x *big.Rat) *big.Rat {
	value, power := new(big.Rat), big.NewRat(1, 1)
	for _, c := range p {
		value.Add(value, new(big.Rat).Mul(c, power))
		power = new(big.Rat).Mul(power, x)
	}
	return value
}

// samples has polynomials with all numbers of coefficients, of which some are
// small, some are 0 and some are nearly as long as they may be.
func samples() [][]string {
	source := rand.New(rand.NewSource(21))
	number := func(bits uint) string {
		size := new(big.Int).Lsh(big.NewInt(1), bits)
		top, bottom := new(big.Int).Rand(source, size), new(big.Int).Rand(source, size)
		if source.Intn(2) > 0 {
			top.Neg(top)
		}
		return new(big.Rat).SetFrac(top, bottom.Add(bottom, big.NewInt(1))).RatString()
	}
	var list [][]string
	for _, bits := range []uint{1, 2, 30, 160} {
		for n := 1; n <= api.MaxCoeffs; n++ {
			if bits > 2 && n%4 > 1 {
				continue
			}
			p := make([]string, n)
			for i := range p {
				p[i] = number(bits)
			}
			for p[n-1] == "0" {
				p[n-1] = number(bits)
			}
			list = append(list, p)
		}
	}
	return append(list, nil)
}

func TestAllPairs(t *testing.T) {
	unit := big.NewRat(1, 1)
	list := samples()
	for _, a := range list {
		for _, b := range list {
			p, q := read(t, a), read(t, b)
			sum, err := poly.Add(a, b)
			expect(t, "Add", sum, err, strings.Join(p.add(q, unit, 0).texts(), " "))
			product, err := poly.Mul(a, b)
			expect(t, "Mul", product, err, strings.Join(p.mul(q).texts(), " "))
			quotient, rest, err := poly.Div(a, b)
			if len(b) == 0 {
				continue
			}
			if err != nil || len(rest) >= len(b) {
				t.Fatalf("Div(%q, %q) = %q, %q, %v", a, b, quotient, rest, err)
			}
			all := read(t, quotient).mul(q).add(read(t, rest), unit, 0)
			expect(t, "quotient times divisor plus remainder", all.texts(), nil, strings.Join(a, " "))
		}
	}
}

// TestAllNumbers looks at the values of results at as many numbers as it takes
// to tell two polynomials from each other.
func TestAllNumbers(t *testing.T) {
	list := samples()
	for _, a := range list {
		p := read(t, a)
		for _, b := range list {
			if len(b) == 0 {
				continue
			}
			x := read(t, b[len(b)-1:])[0]
			value, err := poly.Eval(a, b[len(b)-1])
			expect(t, "Eval", []string{value}, err, p.at(x).RatString())
			shifted, err := poly.Shift(a, b[len(b)-1])
			if err != nil || len(shifted) != len(a) {
				t.Fatalf("Shift(%q, %v) = %q, %v", a, x, shifted, err)
			}
			for n := range int64(len(a)) {
				y := big.NewRat(n, 1)
				if read(t, shifted).at(y).Cmp(p.at(new(big.Rat).Add(x, y))) != 0 {
					t.Errorf("Shift(%q, %v) has another value at %v", a, x, y)
				}
			}
		}
		var slope fractions
		for i, c := range p {
			if i > 0 {
				slope = append(slope, new(big.Rat).Mul(c, big.NewRat(int64(i), 1)))
			}
		}
		got, err := poly.Deriv(a)
		expect(t, "Deriv", got, err, strings.Join(slope.texts(), " "))
	}
}
