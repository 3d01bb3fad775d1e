package sturm_test

import (
	"slices"
	"strconv"
	"strings"
	"testing"

	"abacist/poly"
	"abacist/rat"
	"abacist/sturm"
)

// parse reads a polynomial with any number of coefficients of any size, which
// may end with 0.
func parse(t *testing.T, text string) poly.Polynomial {
	t.Helper()
	var p poly.Polynomial
	for _, c := range from(text)[0] {
		x, err := rat.Parse(c)
		if err != nil {
			t.Fatalf("Parse(%q): %v", c, err)
		}
		p = append(p, x)
	}
	return p
}

func expectPolynomials(t *testing.T, call string, got []poly.Polynomial, want string) {
	t.Helper()
	var list [][]string
	for _, p := range got {
		list = append(list, p.Texts())
		if len(p) != len(p.Texts()) {
			t.Errorf("%s ends with 0", call)
		}
	}
	if !slices.EqualFunc(list, from(want), slices.Equal) {
		t.Errorf("%s = %q, want %s", call, list, want)
	}
}

// expectBetween wants this number of roots between two numbers.
func expectBetween(t *testing.T, p poly.Polynomial, a, b string, want int) {
	t.Helper()
	ends := parse(t, a+" "+b)
	if got := sturm.CounterOf(p).Between(ends[0], ends[1]); got != want {
		t.Errorf("%v has %d roots between %s and %s, want %d", p, got, a, b, want)
	}
}

// TestLeadingZeros has polynomials that end with 0, which no result does.
func TestLeadingZeros(t *testing.T) {
	for _, zeros := range []string{"", " 0", " 0 0 0"} {
		p, square, constant, zero := parse(t, "-2 0 1"+zeros), parse(t, "0 0 3"+zeros), parse(t, "7"+zeros), parse(t, zeros)
		expectPolynomials(t, "ChainOf", sturm.ChainOf(p), "-2 0 1|0 2|2")
		expectPolynomials(t, "ChainOf", sturm.ChainOf(square), "0 0 3|0 6")
		expectPolynomials(t, "ChainOf", sturm.ChainOf(constant), "7")
		expectBetween(t, p, "-2", "2", 2)
		expectBetween(t, square, "-1", "0", 1)
		expectBetween(t, constant, "-1", "0", 0)
		if chain := sturm.ChainOf(zero); len(chain) > 0 {
			t.Errorf("ChainOf(%v) = %v", zero, chain)
		}
	}
}

func TestChangesOf(t *testing.T) {
	for want, numbers := range []string{"0 1 0 1", "1 0 -1", "0 -1/2 2 0 -3", "1 -1 1 -1"} {
		if got := sturm.ChangesOf(parse(t, numbers)); got != want {
			t.Errorf("ChangesOf(%s) = %d, want %d", numbers, got, want)
		}
	}
}

// TestManyRoots has more coefficients, and longer ones, than an argument may
// have: the roots are 1, 2, ..., each of them i times for i = 1, 2 or 3.
func TestManyRoots(t *testing.T) {
	const most = 12
	p := parse(t, "-1/"+strings.Repeat("9", 120))
	for i := range most {
		for range 1 + i%3 {
			p = p.Mul(parse(t, "-"+strconv.Itoa(i+1)+" 1"))
		}
	}
	counter := sturm.CounterOf(p)
	for a := range most + 2 {
		for b := a; b < most+2; b++ {
			low, high := parse(t, strconv.Itoa(a))[0], parse(t, strconv.Itoa(b))[0]
			if got, want := counter.Between(low, high), min(b, most)-min(a, most); got != want {
				t.Errorf("%d roots between %d and %d, want %d", got, a, b, want)
			}
		}
	}
	expectBetween(t, p, "1/2", "3/2", 1)
	expectBetween(t, p, "-100", strings.Repeat("9", 120), most)
}

func TestPowersLessOne(t *testing.T) {
	for n := 1; n < 30; n++ {
		p := parse(t, "-1 "+strings.Repeat("0 ", n-1)+"1")
		expectBetween(t, p, "0", "1", 1)
		expectBetween(t, p, "-1", "1", 1)
		expectBetween(t, p, "-2", "2", 1+(n+1)%2)
	}
}

// TestFunctionsKeepTheirArguments overwrites the results.
func TestFunctionsKeepTheirArguments(t *testing.T) {
	for _, text := range []string{"1", "-1/2 1", "0 0 1 1", "-2 0 1", "1 2 1 0 0"} {
		p := parse(t, text)
		for _, chain := range [][]poly.Polynomial{sturm.ChainOf(p), sturm.CounterOf(p)} {
			for _, link := range chain {
				link = link[:cap(link)]
				for i := range link {
					link[i] = rat.Number{}
				}
			}
		}
		same := func(a, b rat.Number) bool { return a.Compare(b) == 0 }
		if !slices.EqualFunc(p, parse(t, text), same) {
			t.Errorf("a function changes %s to %v", text, p)
		}
	}
}
