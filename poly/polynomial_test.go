package poly_test

import (
	"slices"
	"strings"
	"testing"

	"abacist/api"
	"abacist/plain"
	"abacist/poly"
	"abacist/rat"
)

// parse reads a polynomial with any number of coefficients of any size, which
// may end with 0.
func parse(t *testing.T, text string) poly.Polynomial {
	t.Helper()
	var p poly.Polynomial
	for _, c := range from(text) {
		x, err := rat.Parse(c)
		if err != nil {
			t.Fatalf("Parse(%q): %v", c, err)
		}
		p = append(p, x)
	}
	return p
}

func expectTexts(t *testing.T, call string, got poly.Polynomial, want string) {
	t.Helper()
	if !slices.Equal(got.Texts(), from(want)) || len(got) != len(from(want)) {
		t.Errorf("%s = %v, want %s", call, got, want)
	}
}

func TestRead(t *testing.T) {
	for _, p := range right() {
		got, err := poly.Read(from(p))
		if err != nil {
			t.Errorf("Read(%s): %v", p, err)
		}
		expectTexts(t, "Read", got, p)
	}
	for _, c := range wrong() {
		got, err := poly.Read(c.p)
		if len(got) > 0 || plain.Told(err) != c.want {
			t.Errorf("Read(%.200q) = %v, %v; want %v", c.p, got, plain.Told(err), c.want)
		}
	}
}

// TestLeadingZeros has polynomials that end with 0, which no result does.
func TestLeadingZeros(t *testing.T) {
	half := parse(t, "1/2")[0]
	for _, zeros := range []string{"", " 0", " 0 0 0"} {
		p, q, zero := parse(t, "-1 0 1"+zeros), parse(t, "1 1"+zeros), parse(t, zeros)
		texts := p.Texts()
		if strings.Join(texts, " ") != "-1 0 1" {
			t.Errorf("Texts of %v: %q", p, texts)
		}
		expectTexts(t, "Add", p.Add(q), "0 1 1")
		expectTexts(t, "Add", p.Add(zero), "-1 0 1")
		expectTexts(t, "Add", zero.Add(zero), "")
		expectTexts(t, "Mul", p.Mul(q), "-1 -1 1 1")
		expectTexts(t, "Mul", zero.Mul(q), "")
		expectTexts(t, "Deriv", p.Deriv(), "0 2")
		expectTexts(t, "Deriv", zero.Deriv(), "")
		expectTexts(t, "Shift", p.Shift(half), "-3/4 1 1")
		expectTexts(t, "Shift", zero.Shift(half), "")
		expectTexts(t, "Primitive", p.Primitive(), "-1 0 1")
		expectTexts(t, "Primitive", zero.Primitive(), "")
		for _, c := range []struct{ got, want rat.Number }{
			{p.Eval(half), parse(t, "-3/4")[0]},
			{zero.Eval(half), rat.Number{}},
		} {
			if c.got.Compare(c.want) != 0 {
				t.Errorf("Eval = %v, want %v", c.got, c.want)
			}
		}
		expectQuotient(t, p, q, "-1 1", "")
		expectQuotient(t, q, p, "", "1 1")
		expectQuotient(t, zero, q, "", "")
		quotient, rest, err := p.Div(zero)
		if len(quotient) > 0 || len(rest) > 0 || plain.Told(err) != api.ErrZero {
			t.Errorf("Div by 0 = %v, %v, %v", quotient, rest, err)
		}
	}
}

func expectQuotient(t *testing.T, p, q poly.Polynomial, quotient, rest string) {
	t.Helper()
	x, y, err := p.Div(q)
	if err != nil {
		t.Errorf("%v / %v: %v", p, q, err)
	}
	expectTexts(t, "the quotient", x, quotient)
	expectTexts(t, "the remainder", y, rest)
}

// TestAnySize has more coefficients than an argument may have.
func TestAnySize(t *testing.T) {
	ones := parse(t, strings.Repeat("1 ", 50))
	less := parse(t, "-1 1")
	product := ones.Mul(less)
	expectTexts(t, "Mul", product, "-1 "+strings.Repeat("0 ", 49)+"1")
	expectQuotient(t, product, less, strings.Repeat("1 ", 50), "")
	expectTexts(t, "Add", product.Add(ones), "0 "+strings.Repeat("1 ", 49)+"1")
	expectTexts(t, "Shift", product.Shift(less[0]).Shift(less[1]), "-1 "+strings.Repeat("0 ", 49)+"1")
	if got := ones.Eval(less[1]).String(); got != "50" {
		t.Errorf("Eval = %s, want 50", got)
	}
}

func TestPrimitive(t *testing.T) {
	long := strings.Repeat("9", 300)
	for _, c := range []struct{ p, want string }{
		{"1", "1"},
		{"-5", "-1"},
		{"3/7", "1"},
		{"-2/3 4/5", "-5 6"},
		{"0 -6 0 4 -2", "0 -3 0 2 -1"},
		{"1/2 1/3 -1/4", "6 4 -3"},
		{"6/35 10/21 -15/14", "36 100 -225"},
		{"0 4/9", "0 1"},
		{"3 1/3", "9 1"},
		{"1/" + long + " 2/" + long, "1 2"},
		{"-" + long + " 0 " + long, "-1 0 1"},
		{"1/" + long + " 1/10", "10 " + long},
	} {
		expectTexts(t, "Primitive of "+c.p, parse(t, c.p).Primitive(), c.want)
	}
}

// TestMethodsKeepTheirArguments overwrites the results.
func TestMethodsKeepTheirArguments(t *testing.T) {
	one := parse(t, "1")
	for _, text := range []string{"", "1", "-1 0 1", "1 2 0 0"} {
		for _, other := range []string{"1", "3 1", "0 0 0 5", "1 0"} {
			p, q := parse(t, text), parse(t, other)
			quotient, rest, _ := p.Div(q)
			for _, result := range []poly.Polynomial{
				p.Add(q), q.Add(p), p.Add(nil), p.Mul(q), p.Mul(one), quotient, rest,
				p.Deriv(), p.Shift(one[0]), p.Shift(rat.Number{}), p.Primitive(),
			} {
				result = result[:cap(result)]
				for i := range result {
					result[i] = rat.Number{}
				}
			}
			for i, c := range parse(t, text) {
				if p[i].Compare(c) != 0 {
					t.Errorf("a method changes %s to %v", text, p)
				}
			}
			for i, c := range parse(t, other) {
				if q[i].Compare(c) != 0 {
					t.Errorf("a method changes %s to %v", other, q)
				}
			}
		}
	}
}
