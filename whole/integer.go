package whole

import (
	"strings"

	"abacist/api"
	"abacist/nat"
)

// Integer is an integer of any size, without the limit of Check: the functions
// of other packages have intermediate results that exceed it. The zero value
// is 0.
type Integer struct {
	negative bool // never for 0, so that 0 has one text
	size     nat.Natural
}

// Of returns n as an integer.
func Of(n int) Integer {
	size := uint64(n)
	if n < 0 {
		size = -size
	}
	return Integer{n < 0, nat.Of(size)}
}

// Parse reads an integer with any number of digits; ErrForm if it is none.
func Parse(a string) (Integer, error) {
	digits, negative := strings.CutPrefix(a, "-")
	size, err := nat.Parse(digits)
	if err != nil {
		return Integer{}, err
	}
	if negative && len(size) == 0 {
		return Integer{}, api.ErrForm
	}
	return Integer{negative, size}, nil
}

func signed(negative bool, size nat.Natural) Integer {
	return Integer{negative && len(size) > 0, size}
}

// String writes x in decimal.
func (x Integer) String() string {
	if x.negative {
		return "-" + x.size.String()
	}
	return x.size.String()
}

// Sign returns 1, 0 or -1, as x is greater than, equal to or less than 0.
func (x Integer) Sign() int {
	switch {
	case x.negative:
		return -1
	case len(x.size) > 0:
		return 1
	}
	return 0
}

// Less reports whether x is less than y.
func (x Integer) Less(y Integer) bool {
	return x.Sub(y).negative
}

// Neg returns x with the other sign.
func (x Integer) Neg() Integer {
	return signed(!x.negative, x.size)
}

// Add returns the sum.
func (x Integer) Add(y Integer) Integer {
	if x.negative == y.negative {
		return Integer{x.negative, x.size.Add(y.size)}
	}
	if x.size.Less(y.size) {
		x, y = y, x
	}
	// The size of x is not the smaller one, so the difference exists.
	rest, _ := x.size.Sub(y.size)
	return signed(x.negative, rest)
}

// Sub returns the difference.
func (x Integer) Sub(y Integer) Integer {
	return x.Add(y.Neg())
}

// Mul returns the product.
func (x Integer) Mul(y Integer) Integer {
	return signed(x.negative != y.negative, x.size.Mul(y.size))
}

// Div returns the quotient and the remainder, which is not negative whatever
// the signs are; ErrZero if y is 0.
func (x Integer) Div(y Integer) (Integer, Integer, error) {
	quotient, rest, err := x.size.Div(y.size)
	if err != nil {
		return Integer{}, Integer{}, err
	}
	if x.negative && len(rest) > 0 {
		// The rest would be below 0: one y more is taken, and not all of it used.
		quotient = quotient.Add(nat.Natural{1})
		rest, _ = y.size.Sub(rest)
	}
	return signed(x.negative != y.negative, quotient), Integer{size: rest}, nil
}

// Gcd returns the greatest natural number that divides both; 0 for 0 and 0. It
// spares itself what only the function Gcd needs: how that number is made.
func (x Integer) Gcd(y Integer) Integer {
	return Integer{size: x.size.Gcd(y.size)}
}

func (x Integer) abs() Integer {
	return Integer{size: x.size}
}

// pair is what the extended Euclidean algorithm is about.
type pair struct{ a, b Integer }

// gcd returns the greatest common divisor g, and x and y with x*a + y*b = g.
func (p pair) gcd() (g, x, y Integer) {
	q, r, err := p.a.Div(p.b)
	if err != nil { // b is 0, where the recursion ends
		return p.a.abs(), Of(p.a.Sign()), Integer{}
	}
	g, u, v := pair{p.b, r}.gcd()
	return g, v, u.Sub(q.Mul(v))
}
