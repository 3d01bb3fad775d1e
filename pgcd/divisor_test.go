package pgcd_test

import (
	"math/rand"
	"slices"
	"strings"
	"testing"

	"abacist/pgcd"
	"abacist/poly"
	"abacist/rat"
)

// parse reads a polynomial with any number of coefficients of any size, which
// may end with 0.
func parse(t *testing.T, text string) poly.Polynomial {
	t.Helper()
	var p poly.Polynomial
	for _, c := range strings.Fields(text) {
		x, err := rat.Parse(c)
		if err != nil {
			t.Fatalf("Parse(%q): %v", c, err)
		}
		p = append(p, x)
	}
	return p
}

// expectPolynomials wants these polynomials, none of which ends with 0.
func expectPolynomials(t *testing.T, call string, got []poly.Polynomial, want string) {
	t.Helper()
	var list [][]string
	for _, p := range got {
		list = append(list, p.Texts())
		if len(p) != len(p.Texts()) {
			t.Errorf("%s ends with 0", call)
		}
	}
	expect(t, call, list, nil, want)
}

// results are those of all functions, without those of Yun.
func results(p, q poly.Polynomial) []poly.Polynomial {
	return []poly.Polynomial{pgcd.MonicOf(p), pgcd.GcdOf(p, q), pgcd.GcdOf(q, p), pgcd.FreeOf(p)}
}

// TestLeadingZeros has polynomials that end with 0, which no result does.
func TestLeadingZeros(t *testing.T) {
	for _, zeros := range []string{"", " 0", " 0 0 0"} {
		p, q, zero := parse(t, "0 0 2 2"+zeros), parse(t, "0 3"+zeros), parse(t, zeros)
		expectPolynomials(t, "of both", results(p, q), "0 0 1 1|0 1|0 1|0 1 1")
		expectPolynomials(t, "of p", results(p, zero), "0 0 1 1|0 0 1 1|0 0 1 1|0 1 1")
		expectPolynomials(t, "of 0", results(zero, q), "|0 1|0 1|")
		expectPolynomials(t, "of 0 and 0", results(zero, zero), "|||")
		expectPolynomials(t, "YunOf", pgcd.YunOf(p), "1 1|0 1")
		if factors := pgcd.YunOf(zero); len(factors) > 0 {
			t.Errorf("YunOf(%v) = %v", zero, factors)
		}
	}
}

// TestAnySize has more coefficients, and longer ones, than an argument may have.
func TestAnySize(t *testing.T) {
	// The polynomials are x^10 * (x^20 - 1)^2 and x^6 * (x^16 - 1).
	zeros := func(n int) string { return strings.Repeat("0 ", n) }
	square := zeros(10) + "1 " + zeros(19) + "-2 " + zeros(19) + "1"
	p, q := parse(t, square), parse(t, zeros(6)+"-1 "+zeros(15)+"1")
	common, free := zeros(6)+"-1 "+zeros(3)+"1", "0 -1 "+zeros(19)+"1"
	expectPolynomials(t, "of both", results(p, q), square+"|"+common+"|"+common+"|"+free)

	source := rand.New(rand.NewSource(10))
	for range 100 {
		p, q := randomPair(source, 90)
		f, g := parse(t, p.String()), parse(t, q.String())
		got := []poly.Polynomial{pgcd.GcdOf(f, g), pgcd.GcdOf(g, f)}
		want := p.gcd(q).String()
		expectPolynomials(t, "GcdOf("+p.String()+", "+q.String()+")", got, want+"|"+want)
	}
}

// TestFunctionsKeepTheirArguments overwrites the results.
func TestFunctionsKeepTheirArguments(t *testing.T) {
	for _, text := range []string{"", "1", "-1/2 1", "0 0 1 1", "1 2 1 0 0"} {
		for _, other := range []string{"", "1", "1 1", "0 2"} {
			p, q := parse(t, text), parse(t, other)
			for _, result := range slices.Concat(results(p, q), pgcd.YunOf(p)) {
				result = result[:cap(result)]
				for i := range result {
					result[i] = rat.Number{}
				}
			}
			if !slices.EqualFunc(p, parse(t, text), equal) || !slices.EqualFunc(q, parse(t, other), equal) {
				t.Errorf("a function changes %s or %s to %v or %v", text, other, p, q)
			}
		}
	}
}

func equal(a, b rat.Number) bool {
	return a.Compare(b) == 0
}
