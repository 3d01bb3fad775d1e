package pgcd_test

import (
	"slices"
	"strings"
	"testing"

	"abacist/api"
	"abacist/pgcd"
	"abacist/plain"
)

var (
	greatest        = strings.Repeat("9", api.MaxDigits)
	tooLong         = strings.Repeat("9", api.MaxDigits+1)
	tooLongFraction = "1/" + strings.Repeat("9", api.MaxDigits-1)
)

// from reads polynomials that are written as their coefficients with spaces in
// between, with a bar between two polynomials.
func from(text string) [][]string {
	var list [][]string
	for part := range strings.SplitSeq(text, "|") {
		list = append(list, strings.Fields(part))
	}
	return list
}

// operation is a function of one polynomial, with all its results.
type operation struct {
	name string
	call func(p []string) ([][]string, error)
}

func one(p []string, err error) ([][]string, error) {
	return [][]string{p}, err
}

// operations has Gcd as a function of each of its arguments.
func operations() []operation {
	return []operation{
		{"Monic", func(p []string) ([][]string, error) { return one(pgcd.Monic(p)) }},
		{"Free", func(p []string) ([][]string, error) { return one(pgcd.Free(p)) }},
		{"Yun", pgcd.Yun},
		{"Gcd with 1 of", func(p []string) ([][]string, error) { return one(pgcd.Gcd(p, []string{"1"})) }},
		{"Gcd with 0 of", func(p []string) ([][]string, error) { return one(pgcd.Gcd(p, nil)) }},
		{"Gcd of 1 with", func(p []string) ([][]string, error) { return one(pgcd.Gcd([]string{"1"}, p)) }},
		{"Gcd of 0 with", func(p []string) ([][]string, error) { return one(pgcd.Gcd(nil, p)) }},
	}
}

// expect wants these polynomials, and no error.
func expect(t *testing.T, call string, got [][]string, err error, want string) {
	t.Helper()
	if !slices.EqualFunc(got, from(want), slices.Equal) || err != nil {
		t.Errorf("%s = %q, %v; want %s", call, got, plain.Told(err), want)
	}
}

// expectAll wants these results of the functions of one polynomial; "none" of
// Yun is the empty list.
func expectAll(t *testing.T, p, monic, free, yun string) {
	t.Helper()
	f := from(p)[0]
	got, err := one(pgcd.Monic(f))
	expect(t, "Monic("+p+")", got, err, monic)
	got, err = one(pgcd.Free(f))
	expect(t, "Free("+p+")", got, err, free)
	got, err = pgcd.Yun(f)
	if yun != "none" {
		expect(t, "Yun("+p+")", got, err, yun)
	} else if len(got) > 0 || err != nil {
		t.Errorf("Yun(%s) = %q, %v; want none", p, got, plain.Told(err))
	}
}

// expectGcd wants this greatest common divisor in each order.
func expectGcd(t *testing.T, p, q, want string) {
	t.Helper()
	f, g := from(p)[0], from(q)[0]
	got, err := one(pgcd.Gcd(f, g))
	expect(t, "Gcd("+p+", "+q+")", got, err, want)
	got, err = one(pgcd.Gcd(g, f))
	expect(t, "Gcd("+q+", "+p+")", got, err, want)
}

func TestExamples(t *testing.T) {
	for _, c := range []struct{ p, monic, free, yun string }{
		{"", "", "", "none"},
		{"1", "1", "1", "none"},
		{"-2/3", "1", "1", "none"},
		{greatest, "1", "1", "none"},
		{"1 -2", "-1/2 1", "-1/2 1", "-1/2 1"},
		{"0 5", "0 1", "0 1", "0 1"},
		{"0 0 -3", "0 0 1", "0 1", "1|0 1"},
		{"0 0 0 0 0 0 0 0 1/7", "0 0 0 0 0 0 0 0 1", "0 1", "1|1|1|1|1|1|1|0 1"},
		{"0 0 1 1", "0 0 1 1", "0 1 1", "1 1|0 1"},
		{"2 4 2", "1 2 1", "1 1", "1|1 1"},
		{"1/3 1/2", "2/3 1", "2/3 1", "2/3 1"},
		{"-1 0 0 0 0 0 0 0 1", "-1 0 0 0 0 0 0 0 1", "-1 0 0 0 0 0 0 0 1", "-1 0 0 0 0 0 0 0 1"},
		// Multiple roots without a rational one among them.
		{"1 0 2 0 1", "1 0 2 0 1", "1 0 1", "1|1 0 1"},
		{"4 0 -4 0 1", "4 0 -4 0 1", "-2 0 1", "1|-2 0 1"},
		{"3 0 9 0 9 0 3", "1 0 3 0 3 0 1", "1 0 1", "1|1|1 0 1"},
		// x^3 * (x - 1), and (x + 1)^3 * (x^2 + 1): none is there twice.
		{"0 0 0 -1 1", "0 0 0 -1 1", "0 -1 1", "-1 1|1|0 1"},
		{"1 3 4 4 3 1", "1 3 4 4 3 1", "1 1 1 1", "1 0 1|1|1 1"},
		// x * (x + 1)^2 * (x - 1)^4 by 2/5.
		{"0 2/5 -4/5 -2/5 8/5 -2/5 -4/5 2/5", "0 1 -2 -1 4 -1 -2 1", "0 -1 0 1", "0 1|1 1|1|-1 1"},
	} {
		expectAll(t, c.p, c.monic, c.free, c.yun)
		expectGcd(t, c.p, c.p, c.monic)
		expectGcd(t, c.p, "", c.monic)
		if c.p != "" {
			expectGcd(t, c.p, "3/4", "1")
			expectGcd(t, c.p, c.free, c.free)
		}
	}
}

func TestGcd(t *testing.T) {
	for _, c := range []struct{ p, q, want string }{
		{"", "", ""},
		{"", "-2", "1"},
		{"", "1 -2", "-1/2 1"},
		{"3", "-2", "1"},
		{"-1 0 1", "2 2", "1 1"},
		{"-1 0 1", "3", "1"},
		{"-1 0 1", "2 1", "1"},
		{"-1 0 1", "1 0 1", "1"},
		{"1 1", "-1/2 -1/2", "1 1"},
		{"-6 1 1", "6 -5 1", "-2 1"},
		{"2/3 1/3", "4 4 1", "2 1"},
		{"0 0 3", "0 0 0 0 0 5", "0 0 1"},
		{"0 1", "1 1", "1"},
		{"-2 0 1", "2 -3 -1 3/2", "-2 0 1"},
		// Knuth's example, of which each remainder is shorter by 2 or by 1.
		{"-5 2 8 -3 -3 0 1 0 1", "21 -9 -4 0 5 0 3", "1"},
		// The coefficients of remainders are 0, so that they are shorter by more.
		{"1 0 0 0 0 0 0 0 1", "0 1 0 0 0 0 0 1", "1"},
		{"0 1 0 0 0 0 0 1", "0 0 0 0 1 0 0 0 1", "0 1"},
		{"1 2 0 0 0 0 0 0 3", "1 0 0 0 0 0 0 0 3", "1"},
		{"2 1 2 1 0 0 0 2 1", "2 1 0 0 2 1 0 -2 -1", "2 1"},
	} {
		expectGcd(t, c.p, c.q, c.want)
	}
}

// TestPowersLessOne has the polynomials x^m - 1, whose greatest common divisors
// are of the same kind.
func TestPowersLessOne(t *testing.T) {
	less := func(m int) string {
		return "-1 " + strings.Repeat("0 ", m-1) + "1"
	}
	for m := 1; m < api.MaxCoeffs; m++ {
		for n := 1; n <= m; n++ {
			a, b := m, n
			for b > 0 {
				a, b = b, a%b
			}
			expectGcd(t, less(m), less(n), less(a))
		}
	}
}

// TestLongResults has coefficients that are longer than those of arguments may
// be.
func TestLongResults(t *testing.T) {
	zeros := func(n int) string { return strings.Repeat("0", n) }
	nines := strings.Repeat("9", api.MaxDigits-2)
	square := nines[1:] + "8" + zeros(len(nines)-1) + "1"
	expectAll(t, nines+" 1/"+nines, square+" 1", square+" 1", square+" 1")

	p, shifted := greatest+" 1/1"+zeros(97), greatest+zeros(97)+" 1"
	expectAll(t, p, shifted, shifted, shifted)
	expectGcd(t, "", p, shifted)

	// The square of 10^49 + 1 + 10^49 * x.
	p = "1" + zeros(48) + "2" + zeros(48) + "1 2" + zeros(48) + "2" + zeros(49) + " 1" + zeros(98)
	top := "1" + zeros(48) + "1"
	monic := "1" + zeros(48) + "2" + zeros(48) + "1/1" + zeros(98) + " " + top + "/5" + zeros(48) + " 1"
	free := top + "/1" + zeros(49) + " 1"
	expectAll(t, p, monic, free, "1|"+free)
	expectGcd(t, p, "2"+zeros(48)+"2"+zeros(49)+" 2"+zeros(98), free)
}

// wrong has lists that are no polynomials.
func wrong() []struct {
	p    []string
	want api.Errno
} {
	full := slices.Repeat([]string{"1"}, api.MaxCoeffs+1)
	return []struct {
		p    []string
		want api.Errno
	}{
		{[]string{""}, api.ErrForm},
		{[]string{"1", "-0", "1"}, api.ErrForm},
		{[]string{"2/4", "1"}, api.ErrForm},
		{[]string{"1", "x"}, api.ErrForm},
		{[]string{"0"}, api.ErrForm},
		{[]string{"1", "2", "0"}, api.ErrForm},
		{[]string{tooLong}, api.ErrFull},
		{[]string{"1", tooLongFraction, "1"}, api.ErrFull},
		{[]string{"x", tooLong}, api.ErrForm},
		{[]string{tooLong, "x"}, api.ErrFull},
		{[]string{tooLong, "0"}, api.ErrFull},
		{full, api.ErrFull},
		{append([]string{"x"}, full...), api.ErrFull},
		{make([]string, 1<<20), api.ErrFull},
	}
}

func TestErrors(t *testing.T) {
	for _, c := range wrong() {
		for _, o := range operations() {
			got, err := o.call(c.p)
			if len(slices.Concat(got...)) > 0 || plain.Told(err) != c.want {
				t.Errorf("%s(%.200q) = %q, %v; want %v", o.name, c.p, got, plain.Told(err), c.want)
			}
		}
		// The errors of the first argument come before those of the second.
		for _, other := range wrong() {
			got, err := pgcd.Gcd(c.p, other.p)
			if len(got) > 0 || plain.Told(err) != c.want {
				t.Errorf("Gcd(%.200q, %.200q) = %q, %v; want %v", c.p, other.p, got, plain.Told(err), c.want)
			}
		}
	}
}

// TestArgumentsAreKept looks at the arguments, and at the memory behind their
// length, after all results have been overwritten.
func TestArgumentsAreKept(t *testing.T) {
	for _, text := range []string{"", "1", "-1/2", "0 1", "0 1 1", "1 2 1", "0 0 1 1", "-1 0 0 0 0 0 0 0 1"} {
		for _, o := range operations() {
			fields := from(text)[0]
			p := append(slices.Clone(fields), "behind", "it")
			want := slices.Clone(p)
			got, _ := o.call(p[:len(fields)])
			overwrite(t, o.name, got)
			if !slices.Equal(p, want) {
				t.Errorf("%s(%s) changes its argument", o.name, text)
			}
			again, err := o.call(p[:len(fields)])
			if strings.Contains(strings.Join(slices.Concat(again...), " "), "overwritten") || err != nil {
				t.Errorf("%s(%s) = %q, %v after its first results were changed", o.name, text, again, err)
			}
		}
	}
}

// overwrite changes one list after the other, with the memory behind its
// length, and looks whether a later one has changed with it.
func overwrite(t *testing.T, name string, lists [][]string) {
	t.Helper()
	for i, l := range lists {
		l = l[:cap(l)]
		for j := range l {
			if l[j] == "overwritten" {
				t.Errorf("result %d of %s shares memory with another one", i, name)
			}
			l[j] = "overwritten"
		}
	}
}
